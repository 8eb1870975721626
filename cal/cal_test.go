package cal

import (
	"math"
	"slices"
	"testing"

	"feria/api"
)

func star(step int) api.Item { return api.Item{Kind: api.Star, Step: step} }
func one(n int) api.Item     { return api.Item{Kind: api.One, From: n} }
func ranged(from, to, by int) api.Item {
	return api.Item{Kind: api.Range, From: from, To: to, Step: by}
}
func rest(from, by int) api.Item { return api.Item{Kind: api.Rest, From: from, Step: by} }

// with is an event of each second, with a field changed.
func with(field int, its ...api.Item) api.Cal {
	l := [][]api.Item{nil, {star(1)}, {star(1)}, {star(1)}, {star(1)}, {star(1)}, {star(1)}}
	l[field] = its
	return api.Cal{Week: l[0], Year: l[1], Month: l[2], Day: l[3], Hour: l[4], Minute: l[5], Second: l[6]}
}

func TestBoundsField(t *testing.T) { // 28.1
	for f, want := range [][2]int{{1, 7}, {1970, 2369}, {1, 12}, {1, 31}, {0, 23}, {0, 59}, {0, 59}, {0, 0}} {
		if lo, hi := Bounds(f); lo != want[0] || hi != want[1] {
			t.Errorf("Bounds(%d) = %d, %d", f, lo, hi)
		}
		if f < 7 {
			c := with(f, one(3), ranged(4, 6, 1))
			got := Field(c, f)
			if !slices.Equal(got, []api.Item{one(3), ranged(4, 6, 1)}) {
				t.Errorf("Field(%d) = %v", f, got)
			}
			got[0] = one(9)
			if Field(c, f)[0] != one(3) {
				t.Error("Field is new memory")
			}
		}
	}
	if lo, hi := Bounds(-1); lo != 0 || hi != 0 || Field(with(1, one(1)), -1) != nil || Field(with(1, one(1)), 7) != nil || Field(with(1, one(1)), math.MinInt) != nil {
		t.Error("other fields")
	}
}

func TestCheck(t *testing.T) { // 28.1
	for f := range 7 {
		lo, hi := Bounds(f)
		most := 64
		if f == 1 {
			most = 400
		}
		many := slices.Repeat([]api.Item{one(lo)}, most+1)
		right := [][]api.Item{{one(lo)}, {one(hi), one(lo)}, {ranged(lo, hi, 1)}, {ranged(lo, lo, 1), one(hi)}, many[:most]}
		wrong := [][]api.Item{{one(lo - 1)}, {one(hi + 1)}, {ranged(hi, lo, 1)}, {star(2)}, {star(1), one(lo)}, {one(lo), star(1)}, {star(1), star(1)}, {{Kind: 9}}, {one(lo), {}}, {ranged(lo, hi, 0)}}
		some := [][]api.Item{{rest(lo, 1)}, {ranged(lo, hi, 2)}, {star(1)}, {ranged(lo, hi, 999), rest(hi, 999)}}
		if f == 0 {
			wrong = append(wrong, some...)
			right = append(right, nil)
		} else {
			right = append(right, some...)
		}
		for _, its := range right {
			if n, e := Check(with(f, its...)); n != 7 || e != api.OK {
				t.Errorf("field %d, %v: %d, %v", f, its, n, e)
			}
		}
		for _, its := range wrong {
			if n, e := Check(with(f, its...)); n != f || e != api.ErrArg {
				t.Errorf("field %d, %v: %d, %v", f, its, n, e)
			}
		}
		if n, e := Check(with(f, many...)); n != f || e != api.ErrLong {
			t.Errorf("field %d, too many: %d, %v", f, n, e)
		}
		if n, e := Check(with(f)); f > 0 && (n != f || e != api.ErrLack) {
			t.Errorf("field %d, none: %d, %v", f, n, e)
		}
	}
	c := with(5)
	c.Month = []api.Item{one(13)}
	if n, e := Check(c); n != 2 || e != api.ErrArg {
		t.Errorf("the first field that may not be: %d, %v", n, e)
	}
}

func TestSame(t *testing.T) { // 28.1
	a := with(3, one(3), one(5))
	if !Same(a, with(3, one(3), one(5))) || !Same(api.Cal{}, api.Cal{Hour: []api.Item{}}) {
		t.Error("the same")
	}
	b := a
	b.Back = true
	if Same(a, b) || !Same(b, b) {
		t.Error("Back")
	}
	for f := range 7 {
		if Same(with(f, one(3)), with(f, one(4))) || Same(with(f, one(3)), with(f, one(3), one(3))) || Same(with(f, one(3)), with(f)) || Same(with(f, star(1)), with(f, star(2))) {
			t.Errorf("field %d differs", f)
		}
	}
}
