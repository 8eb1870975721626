package mask

import (
	"math"
	"slices"
	"testing"
)

func TestOfAndHas(t *testing.T) { // 2.1
	m := Of(0, 5, 63, 64, -1, 5, math.MaxInt, math.MinInt)
	if m != 1|1<<5|1<<63 {
		t.Errorf("Of: %x", m)
	}
	if Of() != 0 {
		t.Error("Of nothing")
	}
	for _, n := range []int{0, 5, 63} {
		if !Has(m, n) {
			t.Errorf("Has %d", n)
		}
	}
	for _, n := range []int{-1, 1, 62, 64, 128, math.MinInt, math.MaxInt} {
		if Has(math.MaxUint64&^(1<<1|1<<62), n) {
			t.Errorf("Has %d", n)
		}
	}
}

func TestSpan(t *testing.T) { // 2.1
	for _, c := range []struct {
		from, to, step int
		want           uint64
	}{
		{1, 9, 4, Of(1, 5, 9)}, {1, 8, 4, Of(1, 5)}, {0, 63, 1, math.MaxUint64}, {9, 1, 1, 0}, {0, 9, 0, 0}, {0, 9, -1, 0},
		{-5, 9, 4, Of(3, 7)}, {-8, 9, 4, Of(0, 4, 8)}, {math.MinInt, 3, 1, Of(0, 1, 2, 3)}, {5, math.MaxInt, math.MaxInt, Of(5)},
		{60, math.MaxInt, 2, Of(60, 62)}, {64, 99, 1, 0}, {math.MinInt, math.MaxInt, math.MaxInt, 0}, {-1, 63, math.MaxInt, 0},
		{-math.MaxInt, math.MaxInt, math.MaxInt, Of(0)}, {0, 63, 63, Of(0, 63)}, {0, 70, 64, Of(0)}, {-2, -1, 1, 0},
	} {
		if got := Span(c.from, c.to, c.step); got != c.want {
			t.Errorf("Span(%d, %d, %d) = %x, want %x", c.from, c.to, c.step, got, c.want)
		}
	}
}

func TestLenLeastNextWithout(t *testing.T) { // 2.2
	if Len(0) != 0 || Len(math.MaxUint64) != 64 || Len(Of(1, 2, 63)) != 3 {
		t.Error("Len")
	}
	if n, ok := Least(0); n != 0 || ok {
		t.Error("Least of nothing")
	}
	if n, ok := Least(Of(63)); n != 63 || !ok {
		t.Error("Least of 63")
	}
	m := Span(1, 9, 4)
	for _, c := range []struct {
		n, want int
		ok      bool
	}{{5, 9, true}, {4, 5, true}, {0, 1, true}, {-1, 1, true}, {math.MinInt, 1, true}, {9, 0, false}, {62, 0, false}, {63, 0, false}, {math.MaxInt, 0, false}} {
		if got, ok := Next(m, c.n); got != c.want || ok != c.ok {
			t.Errorf("Next of %d: %d, %v", c.n, got, ok)
		}
	}
	if n, ok := Next(Of(0, 1, 2, 9), 2); n != 9 || !ok {
		t.Error("Next leaves out all up to it")
	}
	if n, ok := Next(1<<63, 62); n != 63 || !ok {
		t.Error("Next of 62")
	}
	if Without(m, 0, 9) != Of(0, 2, 3, 4, 6, 7, 8) || Without(0, math.MinInt, math.MaxInt) != math.MaxUint64 || Without(0, 5, 4) != 0 || Without(m, 62, 90) != Of(62, 63) {
		t.Error("Without")
	}
}

func TestAll(t *testing.T) { // 2.3, 2.4
	for range All() {
		t.Error("a number of no masks")
	}
	seq := All(Of(1, 2, 3, 63), Of(2, 3, 63, 5), math.MaxUint64)
	for range 2 {
		if got := slices.Collect(seq); !slices.Equal(got, []int{2, 3, 63}) {
			t.Errorf("All: %v", got)
		}
	}
	for n := range seq {
		if n == 3 {
			break
		}
	}
	for _, m := range []uint64{0, 1, 1 << 63, math.MaxUint64, 0xdeadbeef} {
		if got := Of(slices.Collect(All(m))...); got != m {
			t.Errorf("together again: %x, %x", m, got)
		}
	}
	ms := []uint64{Of(1, 2)}
	kept := All(ms...)
	ms[0] = 0
	if !slices.Equal(slices.Collect(kept), []int{1, 2}) {
		t.Error("the masks are kept")
	}
}
