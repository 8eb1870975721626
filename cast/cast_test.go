package cast

import (
	"math/rand"
	"slices"
	"testing"

	"feria/api"
	"feria/clause"
	"feria/ir"
	"feria/mask"
	"feria/meet"
	"feria/seek"
	"feria/week"
	"feria/wide"
)

// with is Full, changed.
func with(change func(c *api.Clause)) api.Clause {
	c := clause.Full()
	change(&c)
	return c
}

// brute is the face of a set's instants, one by one.
func brute(cs []api.Clause) Face {
	f := Face{Even: true, Square: true}
	byDay := map[int64][]int{}
	for x := range seek.All(cs, 0, api.End) {
		if f.Days == 0 && len(byDay) == 0 {
			f.First = x
		}
		f.Last = x
		byDay[x/86400] = append(byDay[x/86400], int(x%86400))
	}
	var one []int
	for n, ss := range byDay {
		f.Days++
		s, _ := week.Shape(n)
		f.Month |= 1 << s.Month
		f.Dom |= 1 << s.Dom
		f.End |= 1 << s.Back
		f.Week |= 1 << s.Week
		f.Years = wide.Either(f.Years, wide.Of(s.Year-1970))
		f.InMonth[s.Week] |= 1 << s.InMonth
		f.OffMonth[s.Week] |= 1 << s.OffMonth
		f.InYear[s.Week] |= 1 << s.InYear
		f.OffYear[s.Week] |= 1 << s.OffYear
		var h, m, sec uint64
		for _, x := range ss {
			h |= 1 << (x / 3600)
			m |= 1 << (x / 60 % 60)
			sec |= 1 << (x % 60)
		}
		f.Hour, f.Minute, f.Second = f.Hour|h, f.Minute|m, f.Second|sec
		f.Square = f.Square && mask.Len(h)*mask.Len(m)*mask.Len(sec) == len(ss)
		if one == nil {
			one = ss
		}
		f.Even = f.Even && slices.Equal(one, ss)
	}
	return f
}

// some is a set by chance, with few instants.
func some(r *rand.Rand) []api.Clause {
	var cs []api.Clause
	for range 1 + r.Intn(2) {
		cs = append(cs, with(func(c *api.Clause) {
			c.Second, c.Minute, c.Hour = 1<<r.Intn(60)|1<<r.Intn(60), 1<<r.Intn(60)|1<<r.Intn(60), 1<<r.Intn(24)|1<<r.Intn(24)
			if r.Intn(2) == 0 {
				c.Week = mask.Of(1+r.Intn(7), 1+r.Intn(7))
			}
			if r.Intn(2) == 0 {
				c.Dom = mask.Of(1+r.Intn(31), 1+r.Intn(31))
			}
			if r.Intn(3) == 0 {
				c.Unit, c.Step = r.Intn(api.Units), 1+r.Int63n(4)
			}
			from := []int64{5000, 5200, r.Int63n(api.Days - 2000)}[r.Intn(3)] * 86400
			c.From, c.Until = from, from+r.Int63n(1500*86400)
		}))
	}
	return cs
}

func TestOf(t *testing.T) { // 22.1
	r := rand.New(rand.NewSource(22))
	even, square := 0, 0
	for range 150 {
		cs := some(r)
		f, e := Of(cs)
		want := brute(cs)
		if f != want || e != api.OK {
			t.Fatalf("Of(%+v) = %+v, %v; want %+v", cs, f, e, want)
		}
		if f.Even {
			even++
		}
		if f.Square {
			square++
		}
	}
	if even < 10 || even > 140 || square < 10 || square > 140 {
		t.Errorf("even %d times, square %d times", even, square)
	}
}

func TestWholeEmptyWrong(t *testing.T) { // 22.1
	f, e := Of(ir.Whole())
	if !f.Even || !f.Square || f.First != 0 || f.Last != api.End-1 || f.Days != 146097 || f.Years != wide.Full() || e != api.OK {
		t.Errorf("Whole: %+v, %v", f, e)
	}
	if f.InMonth[7] != mask.Span(1, 5, 1) || f.OffYear[1] != mask.Span(1, 53, 1) || f.InMonth[0] != 0 || f.End != mask.Span(1, 31, 1) {
		t.Errorf("Whole's weekdays: %+v", f)
	}
	for _, cs := range [][]api.Clause{nil, {with(func(c *api.Clause) { c.Hour = 0 })}, {with(func(c *api.Clause) { c.From, c.Until = 5, 4 })}} {
		if f, e := Of(cs); f != (Face{Even: true, Square: true}) || e != api.OK {
			t.Errorf("an empty set: %+v, %v", f, e)
		}
	}
	for _, c := range []struct {
		cs []api.Clause
		e  api.Errno
	}{{[]api.Clause{{}}, api.ErrArg}, {slices.Repeat(ir.Whole(), 9), api.ErrLong}} {
		if f, e := Of(c.cs); f != (Face{}) || e != c.e {
			t.Errorf("%+v, %v", f, e)
		}
	}
	for _, x := range []int64{0, 5, 86399, 86400, api.End - 1} {
		f, _ := Of([]api.Clause{with(func(c *api.Clause) { c.From, c.Until = x, x })})
		if f.First != x || f.Last != x || f.Days != 1 || !f.Even || !f.Square {
			t.Errorf("instant %d alone: %+v", x, f)
		}
	}
	dense := []api.Clause{with(func(c *api.Clause) { c.Hour = 1<<3 | 1<<5 }), with(func(c *api.Clause) { c.Hour, c.Minute = 1<<9, 1<<50 })}
	if f, _ := Of(dense); f.Hour != 1<<3|1<<5|1<<9 || f.Minute != 1<<60-1 || f.Second != 1<<60-1 || f.Square || !f.Even {
		t.Errorf("a dense one: %+v", f)
	}
}

func TestBox(t *testing.T) { // 22.2, 22.3
	r := rand.New(rand.NewSource(23))
	for range 40 {
		cs := some(r)
		f, _ := Of(cs)
		box := Box(f)
		want := with(func(c *api.Clause) {
			c.Second, c.Minute, c.Hour, c.Month, c.Dom, c.End, c.Week, c.Years, c.From, c.Until = f.Second, f.Minute, f.Hour, f.Month, f.Dom, f.End, f.Week, f.Years, f.First, f.Last
		})
		if box != want {
			t.Fatalf("Box: %+v", box)
		}
		if v, e := meet.Within(cs, []api.Clause{box}); !v.Yes || e != api.OK {
			t.Fatalf("outside of the box: %+v, %v", v, e)
		}
		around := with(func(c *api.Clause) { c.Hour, c.Week = f.Hour|r.Uint64()&c.Hour, f.Week|r.Uint64()&c.Week })
		if v, _ := meet.Within([]api.Clause{box}, []api.Clause{around}); !v.Yes {
			t.Fatal("a clause that has all has not all of the box")
		}
	}
	empty := Box(Face{})
	if want := with(func(c *api.Clause) {
		c.Second, c.Minute, c.Hour, c.Month, c.Dom, c.End, c.Week, c.Years, c.From, c.Until = 0, 0, 0, 0, 0, 0, 0, [7]uint64{}, 0, 0
	}); empty != want {
		t.Errorf("the box of nothing: %+v", empty)
	}
}
