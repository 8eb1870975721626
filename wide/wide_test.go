package wide

import (
	"math"
	"slices"
	"testing"
)

var over = [7]uint64{6: 1 << 16}

func TestOfFullMayHasLen(t *testing.T) { // 4.1
	s := Of(0, 64, 399, 400, -1, 64, math.MaxInt, math.MinInt)
	if s != [7]uint64{0: 1, 1: 1, 6: 1 << 15} || Len(s) != 3 || Of() != [7]uint64{} {
		t.Errorf("Of: %x", s)
	}
	for _, n := range []int{0, 64, 399} {
		if !Has(s, n) || !Has(Full(), n) {
			t.Errorf("Has %d", n)
		}
	}
	for _, n := range []int{1, 63, 398} {
		if Has(s, n) || !Has(Full(), n) {
			t.Errorf("Has %d", n)
		}
	}
	all := [7]uint64{}
	for i := range all {
		all[i] = math.MaxUint64
	}
	for _, n := range []int{-1, 400, 447, 448, math.MinInt, math.MaxInt} {
		if Has(all, n) {
			t.Errorf("Has %d", n)
		}
	}
	if !May(s) || !May(Full()) || !May([7]uint64{}) || May(over) || May(all) {
		t.Error("May")
	}
	if Len(Full()) != 400 || Len(all) != 400 || Len(over) != 0 {
		t.Error("Len")
	}
}

func TestBothEither(t *testing.T) { // 4.2
	a, b, c := Of(1, 2, 300), Of(2, 300, 399), Of(2, 5)
	if Both() != Full() || Both(a, b) != Of(2, 300) || Both(a, b, c) != Of(2) || Both(over) != Of() || Both(a) != a {
		t.Error("Both")
	}
	if Either() != Of() || Either(a, b) != Of(1, 2, 300, 399) || Either(a, b, c, over) != Of(1, 2, 5, 300, 399) {
		t.Error("Either")
	}
}

func TestAllBounds(t *testing.T) { // 4.3, 4.4
	s := Of(0, 63, 64, 200, 399)
	with := s
	with[6] |= 1 << 60
	seq := All(with)
	for range 2 {
		if got := slices.Collect(seq); !slices.Equal(got, []int{0, 63, 64, 200, 399}) {
			t.Errorf("All: %v", got)
		}
	}
	var some []int
	for n := range seq {
		if some = append(some, n); n == 64 {
			break
		}
	}
	if !slices.Equal(some, []int{0, 63, 64}) {
		t.Errorf("left: %v", some)
	}
	for _, x := range [][7]uint64{s, Full(), {}, Of(77)} {
		if Of(slices.Collect(All(x))...) != x {
			t.Errorf("together again: %x", x)
		}
	}
	for _, c := range []struct {
		s      [7]uint64
		lo, hi int
		ok     bool
	}{{s, 0, 399, true}, {Of(77), 77, 77, true}, {Of(65, 130), 65, 130, true}, {over, 0, 0, false}, {[7]uint64{}, 0, 0, false}, {with, 0, 399, true}} {
		if lo, hi, ok := Bounds(c.s); lo != c.lo || hi != c.hi || ok != c.ok {
			t.Errorf("Bounds: %d, %d, %v", lo, hi, ok)
		}
	}
}
