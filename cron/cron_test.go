package cron

import (
	"math"
	"slices"
	"testing"

	"feria/api"
	"feria/item"
	"feria/mask"
)

func star(step int) api.Item { return api.Item{Kind: api.Star, Step: step} }
func one(n int) api.Item     { return api.Item{Kind: api.One, From: n} }
func ranged(from, to, by int) api.Item {
	return api.Item{Kind: api.Range, From: from, To: to, Step: by}
}
func rest(from, by int) api.Item { return api.Item{Kind: api.Rest, From: from, Step: by} }

// with is a line of stars, with a field changed.
func with(field int, its ...api.Item) api.Cron {
	l := [][]api.Item{{star(1)}, {star(1)}, {star(1)}, {star(1)}, {star(1)}}
	l[field] = its
	return api.Cron{Minute: l[0], Hour: l[1], Day: l[2], Month: l[3], Week: l[4]}
}

func TestBoundsField(t *testing.T) { // 24.1
	for f, want := range [][2]int{{0, 59}, {0, 23}, {1, 31}, {1, 12}, {0, 7}, {0, 0}} {
		if lo, hi := Bounds(f); lo != want[0] || hi != want[1] {
			t.Errorf("Bounds(%d) = %d, %d", f, lo, hi)
		}
		its := []api.Item{one(3), ranged(4, 6, 1)}
		if f < 5 {
			c := with(f, its...)
			got := Field(c, f)
			if !slices.Equal(got, its) {
				t.Errorf("Field(%d) = %v", f, got)
			}
			got[0] = one(9)
			if Field(c, f)[0] != one(3) {
				t.Error("Field is new memory")
			}
		}
	}
	if lo, hi := Bounds(-1); lo != 0 || hi != 0 || Field(with(0, one(1)), -1) != nil || Field(with(0, one(1)), 5) != nil || Field(with(0, one(1)), math.MaxInt) != nil {
		t.Error("other fields")
	}
}

func TestCheck(t *testing.T) { // 24.1, 24.2
	many := slices.Repeat([]api.Item{one(3)}, 65)
	for f := range 5 {
		lo, hi := Bounds(f)
		for _, its := range [][]api.Item{{star(1)}, {star(999), one(lo)}, {one(hi), star(2)}, {ranged(lo, hi, 1)}, many[:64]} {
			c := with(f, its...)
			if n, e := Check(c); n != 5 || e != api.OK {
				t.Errorf("field %d, %v: %d, %v", f, its, n, e)
			}
			for g := range 5 {
				glo, ghi := Bounds(g)
				if len(item.Values(glo, ghi, Field(c, g)...)) == 0 {
					t.Errorf("field %d, %v: no number", f, its)
				}
			}
		}
		for _, x := range []struct {
			its []api.Item
			e   api.Errno
		}{
			{nil, api.ErrLack}, {many, api.ErrLong}, {slices.Repeat([]api.Item{rest(3, 1)}, 65), api.ErrLong}, {[]api.Item{one(hi + 1)}, api.ErrArg}, {[]api.Item{one(lo - 1)}, api.ErrArg},
			{[]api.Item{one(3), rest(3, 1)}, api.ErrArg}, {[]api.Item{star(0)}, api.ErrArg}, {[]api.Item{star(1000)}, api.ErrArg}, {[]api.Item{ranged(4, 3, 1)}, api.ErrArg}, {[]api.Item{{Kind: 9}}, api.ErrArg},
		} {
			if n, e := Check(with(f, x.its...)); n != f || e != x.e {
				t.Errorf("field %d, %v: %d, %v; want %v", f, x.its, n, e, x.e)
			}
		}
	}
	c := with(3)
	c.Hour = many
	if n, e := Check(c); n != 1 || e != api.ErrLong {
		t.Errorf("the first field that may not be: %d, %v", n, e)
	}
}

func TestStarredEither(t *testing.T) { // 24.1
	if !Starred(with(2, star(5), one(3)), 2) || Starred(with(2, one(3), star(1)), 2) || Starred(with(2), 2) || Starred(with(2, star(1)), 5) || Starred(with(2, star(1)), -1) {
		t.Error("Starred")
	}
	c := api.Cron{Minute: []api.Item{one(30)}, Hour: []api.Item{one(4)}, Day: []api.Item{one(1), one(15)}, Month: []api.Item{star(1)}, Week: []api.Item{one(5)}}
	for f := range 5 {
		if Starred(c, f) != (f == 3) {
			t.Errorf("the example: field %d", f)
		}
	}
	if !Either(c) {
		t.Error("the example")
	}
	c.Day = []api.Item{star(2)}
	if Either(c) {
		t.Error("a day with a star")
	}
	c.Day, c.Week = []api.Item{one(3), star(2)}, []api.Item{star(1), one(2)}
	if Either(c) {
		t.Error("a weekday with a star")
	}
	c.Week = []api.Item{one(2), star(1)}
	if !Either(c) {
		t.Error("stars behind")
	}
}

func TestWeekdays(t *testing.T) { // 24.1
	for _, c := range []struct {
		its  []api.Item
		want uint64
	}{
		{nil, 0}, {[]api.Item{one(0)}, mask.Of(7)}, {[]api.Item{one(7)}, mask.Of(7)}, {[]api.Item{one(0), one(7)}, mask.Of(7)}, {[]api.Item{ranged(1, 5, 1)}, mask.Of(1, 2, 3, 4, 5)},
		{[]api.Item{star(1)}, mask.Span(1, 7, 1)}, {[]api.Item{star(2)}, mask.Of(7, 2, 4, 6)}, {[]api.Item{star(8)}, mask.Of(7)}, {[]api.Item{one(8)}, 0},
	} {
		if got := Weekdays(c.its); got != c.want {
			t.Errorf("Weekdays(%v) = %b", c.its, got)
		}
	}
}

func TestSame(t *testing.T) { // 24.1
	a := with(2, one(3), one(5))
	if !Same(a, with(2, one(3), one(5))) || !Same(api.Cron{}, api.Cron{Hour: []api.Item{}}) {
		t.Error("the same")
	}
	for f := range 5 {
		if Same(a, with(f, one(3))) || Same(with(f, one(3)), with(f, one(4))) || Same(with(f, one(3)), with(f, one(3), one(3))) || Same(with(f, star(1)), with(f, star(2))) {
			t.Errorf("field %d differs", f)
		}
	}
}
