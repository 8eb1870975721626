package tod

import (
	"math"
	"math/rand"
	"slices"
	"testing"
)

const full = math.MaxUint64

func TestOfPartsIn(t *testing.T) { // 7.1
	for s := range 86400 {
		h, m, sec, ok := Parts(s)
		if got, in := Of(h, m, sec); got != s || !ok || !in {
			t.Fatalf("second %d", s)
		}
	}
	if s, ok := Of(1, 2, 3); s != 3723 || !ok {
		t.Error("the example")
	}
	for _, c := range [][3]int{{24, 0, 0}, {0, 60, 0}, {0, 0, 60}, {-1, 0, 0}, {0, -1, 0}, {0, 0, -1}, {math.MaxInt, 0, 0}} {
		if s, ok := Of(c[0], c[1], c[2]); s != 0 || ok {
			t.Errorf("Of(%v) = %d", c, s)
		}
	}
	for _, s := range []int{-1, 86400, math.MinInt, math.MaxInt} {
		if h, m, sec, ok := Parts(s); h+m+sec != 0 || ok {
			t.Errorf("Parts(%d)", s)
		}
		if In(s, full, full, full) {
			t.Errorf("In(%d)", s)
		}
	}
	if !In(3723, 1<<1, 1<<2, 1<<3) || In(3723, 1<<2, 1<<2, 1<<3) || In(3723, 1<<1, 1<<1, 1<<3) || In(3723, 1<<1, 1<<2, 1<<2) || In(0, 0, full, full) {
		t.Error("In")
	}
}

// odd is a mask with few or many numbers, also such that count for nothing.
func odd(r *rand.Rand) uint64 {
	switch r.Intn(5) {
	case 0:
		return full
	case 1:
		return 1<<r.Intn(64) | 1<<r.Intn(64)
	case 2:
		return r.Uint64() & r.Uint64() & r.Uint64()
	case 3:
		return 0
	}
	return r.Uint64()
}

func TestNextLastLenAll(t *testing.T) { // 7.2, 7.3
	r := rand.New(rand.NewSource(7))
	for range 60 {
		h, m, s := odd(r), odd(r), odd(r)
		var want []int
		for x := range 86400 {
			if In(x, h, m, s) {
				want = append(want, x)
			}
		}
		if got := slices.Collect(All(h, m, s)); !slices.Equal(got, want) || Len(h, m, s) != len(want) {
			t.Fatalf("All(%x, %x, %x): %d, want %d", h, m, s, len(got), len(want))
		}
		last, ok := Last(h, m, s)
		if ok != (len(want) > 0) || ok && last != want[len(want)-1] || !ok && last != 0 {
			t.Fatalf("Last(%x, %x, %x) = %d, %v", h, m, s, last, ok)
		}
		for i := range want {
			from := -5
			if i > 0 {
				from = want[i-1] + 1
			}
			for _, x := range []int{from, want[i]} {
				if got, ok := Next(x, h, m, s); got != want[i] || !ok {
					t.Fatalf("Next(%d, %x, %x, %x) = %d, want %d", x, h, m, s, got, want[i])
				}
			}
		}
		if got, ok := Next(last+1, h, m, s); got != 0 || ok {
			t.Fatalf("behind the last one: %d", got)
		}
	}
}

func TestEdges(t *testing.T) { // 7.2
	if n, ok := Next(3724, 1<<1, 1<<2, 1|1<<30); n != 3750 || !ok {
		t.Error("the example")
	}
	for _, s := range []int{86400, math.MaxInt} {
		if n, ok := Next(s, full, full, full); n != 0 || ok {
			t.Errorf("Next(%d)", s)
		}
	}
	if n, ok := Next(math.MinInt, full, full, full); n != 0 || !ok {
		t.Error("from far ahead")
	}
	if Len(1<<24, full, full) != 0 || Len(full, 1<<60, full) != 0 || Len(full, full, 1<<63) != 0 || Len(full, full, full) != 86400 {
		t.Error("what counts for nothing")
	}
	n := 0
	seq := All(full, full, full)
	for range seq {
		if n++; n == 100 {
			break
		}
	}
	for s := range seq {
		if s != 0 {
			t.Error("a second time it begins elsewhere")
		}
		break
	}
}
