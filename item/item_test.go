package item

import (
	"math"
	"math/rand"
	"slices"
	"testing"

	"feria/api"
	"feria/mask"
	"feria/wide"
)

func star(step int) api.Item { return api.Item{Kind: api.Star, Step: step} }
func one(n int) api.Item     { return api.Item{Kind: api.One, From: n} }
func ranged(from, to, by int) api.Item {
	return api.Item{Kind: api.Range, From: from, To: to, Step: by}
}
func rest(from, by int) api.Item { return api.Item{Kind: api.Rest, From: from, Step: by} }

func TestMay(t *testing.T) { // 12.1
	for _, it := range []api.Item{star(1), star(999), one(5), one(9), ranged(5, 5, 1), ranged(5, 9, 999), rest(9, 1), rest(5, 999)} {
		if !May(it, 5, 9) {
			t.Errorf("%v may be", it)
		}
		if May(it, -1, 9) || May(it, 9, 5) || May(it, 5, 10000) || May(it, math.MinInt, math.MaxInt) {
			t.Errorf("%v of no field", it)
		}
	}
	for _, it := range []api.Item{
		star(0), star(1000), star(-1), {Kind: api.Star, From: 1, Step: 1}, {Kind: api.Star, To: 1, Step: 1},
		one(4), one(10), {Kind: api.One, From: 5, To: 5}, {Kind: api.One, From: 5, Step: 1},
		ranged(4, 9, 1), ranged(5, 10, 1), ranged(7, 6, 1), ranged(5, 9, 0), ranged(5, 9, 1000),
		rest(4, 1), rest(10, 1), rest(5, 0), rest(5, 1000), {Kind: api.Rest, From: 5, To: 9, Step: 1},
		{Kind: 4, From: 5}, {Kind: -1}, {},
	} {
		if May(it, 5, 9) {
			t.Errorf("%v may not be", it)
		}
	}
}

func TestRight(t *testing.T) { // 12.1
	its := []api.Item{one(5), one(6), rest(7, 2)}
	if !Right(5, 9, 1, its[:1]) || !Right(5, 9, 3, its) || Right(5, 9, 2, its) || Right(5, 9, 3, nil) || Right(5, 9, -1, its) || Right(6, 9, 3, its) || Right(9, 5, 3, its) {
		t.Error("Right")
	}
}

func TestValuesMaskWide(t *testing.T) { // 12.2
	for _, c := range []struct {
		its  []api.Item
		want []int
	}{
		{nil, nil}, {[]api.Item{star(15)}, []int{0, 15, 30, 45}}, {[]api.Item{one(3), one(1), one(3)}, []int{1, 3}}, {[]api.Item{ranged(10, 21, 5)}, []int{10, 15, 20}},
		{[]api.Item{rest(50, 4), one(54), one(60)}, []int{50, 54, 58}}, {[]api.Item{star(999)}, []int{0}}, {[]api.Item{{Kind: 9}}, nil},
	} {
		if got := Values(0, 59, c.its...); !slices.Equal(got, c.want) {
			t.Errorf("Values(%v) = %v", c.its, got)
		}
		if Mask(0, 59, c.its...) != mask.Of(c.want...) || Wide(0, 59, c.its...) != wide.Of(c.want...) {
			t.Errorf("Mask, Wide of %v", c.its)
		}
	}
	if Values(math.MaxInt, math.MinInt, star(1)) != nil || Values(math.MinInt, math.MaxInt, star(1)) != nil || Values(9, 5, star(1)) != nil || Values(-5, 5, star(1)) != nil || Mask(0, 100, star(63)) != 1|1<<63 {
		t.Error("no field, and numbers above 63")
	}
	if Wide(1970, 2369, star(1)) != wide.Full() || Wide(1970, 2369, one(1970), one(2369)) != wide.Of(0, 399) || Wide(0, 9999, one(399), one(400)) != wide.Of(399) {
		t.Error("Wide")
	}
}

func TestOf(t *testing.T) { // 12.3
	for _, c := range []struct {
		ns   []int
		star bool
		want []api.Item
	}{
		{[]int{0, 30}, true, []api.Item{one(0), one(30)}}, {[]int{1, 2, 3, 9}, true, []api.Item{ranged(1, 3, 1), one(9)}}, {[]int{0, 15, 30, 45}, true, []api.Item{ranged(0, 45, 15)}},
		{nil, true, nil}, {[]int{5, 4}, false, nil}, {[]int{-1, 4}, false, nil}, {[]int{10000}, false, nil},
	} {
		if got := Of(0, 59, c.ns, c.star); !slices.Equal(got, c.want) {
			t.Errorf("Of(%v) = %v", c.ns, got)
		}
	}
	all := Values(1, 12, star(1))
	if !slices.Equal(Of(1, 12, all, true), []api.Item{star(1)}) || !slices.Equal(Of(1, 12, all, false), []api.Item{ranged(1, 12, 1)}) || !slices.Equal(Of(0, 12, all, true), []api.Item{ranged(1, 12, 1)}) {
		t.Error("all numbers")
	}
	if !slices.Equal(Of(5, 5, []int{5}, true), []api.Item{star(1)}) || Of(math.MinInt, math.MaxInt, []int{math.MinInt}, true) != nil {
		t.Error("the ends")
	}
}

func TestThereAndBack(t *testing.T) { // 12.4
	r := rand.New(rand.NewSource(12))
	for range 2000 {
		lo := r.Intn(3)
		hi := lo + r.Intn(400)
		var ns []int
		for n := lo + r.Intn(4); n <= hi; n += 1 + r.Intn(1+r.Intn(9)) {
			ns = append(ns, n)
		}
		its := Of(lo, hi, ns, r.Intn(2) == 0)
		for _, it := range its {
			if !May(it, lo, hi) {
				t.Fatalf("%v of %v may not be", it, ns)
			}
		}
		if got := Values(lo, hi, its...); !slices.Equal(got, ns) {
			t.Fatalf("%v: %v: %v", ns, its, got)
		}
	}
}
