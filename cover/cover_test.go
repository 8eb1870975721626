package cover

import (
	"math"
	"math/rand"
	"slices"
	"testing"

	"feria/mask"
)

func TestOf(t *testing.T) { // 3.1
	for _, c := range []struct {
		ns   []int
		want []Piece
	}{
		{nil, nil},
		{[]int{7}, []Piece{{7, 7, 1}}},
		{[]int{1, 2, 3, 7, 9, 20}, []Piece{{1, 3, 1}, {7, 7, 1}, {9, 9, 1}, {20, 20, 1}}},
		{[]int{0, 15, 30, 45}, []Piece{{0, 45, 15}}},
		{[]int{4, 5}, []Piece{{4, 5, 1}}},
		{[]int{4, 6}, []Piece{{4, 4, 1}, {6, 6, 1}}},
		{[]int{1, 3, 4, 5}, []Piece{{1, 1, 1}, {3, 5, 1}}},
		{[]int{1, 2, 4, 6, 8}, []Piece{{1, 2, 1}, {4, 8, 2}}},
		{[]int{0, 9999}, []Piece{{0, 0, 1}, {9999, 9999, 1}}},
		{[]int{0, 10000}, nil}, {[]int{-1, 0}, nil}, {[]int{1, 1}, nil}, {[]int{2, 1}, nil}, {[]int{math.MinInt, math.MaxInt}, nil},
	} {
		if got := Of(c.ns); !slices.Equal(got, c.want) {
			t.Errorf("Of(%v) = %v, want %v", c.ns, got, c.want)
		}
	}
	if got := Mask(mask.Of(0, 15, 30, 45, 63)); !slices.Equal(got, []Piece{{0, 45, 15}, {63, 63, 1}}) {
		t.Errorf("Mask: %v", got)
	}
	if Mask(0) != nil {
		t.Error("Mask of nothing")
	}
}

func TestListAndLen(t *testing.T) { // 3.2
	if got := List(Piece{5, 9, 2}, Piece{1, 1, 1}, Piece{3, 4, 2}, Piece{7, 7, 50}); !slices.Equal(got, []int{5, 7, 9, 1, 7}) {
		t.Errorf("List: %v", got)
	}
	if List() != nil || Len(Piece{0, 9999, 1}) != 10000 || Len(Piece{5, 9, 2}) != 3 || Len(Piece{5, 5, 9}) != 1 {
		t.Error("Len")
	}
	for _, p := range []Piece{{-1, 3, 1}, {4, 3, 1}, {0, 10000, 1}, {0, 4, 0}, {0, 4, -1}, {0, 5, 2}, {math.MinInt, math.MaxInt, 1}} {
		if Len(p) != 0 || len(List(p)) != 0 {
			t.Errorf("%v may not be", p)
		}
	}
}

func TestThereAndBack(t *testing.T) { // 3.3
	r := rand.New(rand.NewSource(3))
	for range 3000 {
		var ns []int
		for n := r.Intn(5); n <= 9999 && len(ns) < 40; n += 1 + r.Intn(1+r.Intn(4)) {
			ns = append(ns, n)
		}
		ps := Of(ns)
		if got := List(ps...); !slices.Equal(got, ns) || len(ps) > len(ns) {
			t.Fatalf("%v: %v", ns, ps)
		}
	}
}
