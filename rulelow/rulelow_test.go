package rulelow

import (
	"math/rand"
	"slices"
	"testing"
	"time"

	"feria/api"
	"feria/clause"
	"feria/ir"
	"feria/mask"
	"feria/seek"
)

// daily is a rule of each day from an instant on.
func daily(start int64) api.Rule {
	return api.Rule{Start: start, Freq: api.Day, Interval: 1, Until: -1}
}

func TestClause(t *testing.T) { // 35.1
	r := api.Rule{Start: 4*86400 + 9*3600 + 61, Freq: api.Week, Interval: 2, Until: 90 * 86400, Week: []api.Nth{{N: 0, Day: 1}, {N: 0, Day: 5}}, Months: []int{1, 2}, Hours: []int{7}}
	want := clause.Full()
	want.Month, want.Week, want.Hour, want.Minute, want.Second = mask.Of(1, 2), mask.Of(1, 5), 1<<7, 1<<1, 1<<1
	want.Unit, want.Step, want.Anchor, want.From, want.Until = api.Week, 2, r.Start, r.Start, 90*86400
	if c, e := Clause(r); c != want || e != api.OK {
		t.Errorf("Clause: %+v, %v", c, e)
	}
	r = api.Rule{Start: 5, Freq: api.Month, Interval: api.MaxInterval, Count: api.MaxCount, Until: -1, Days: []int{-1, -3}, Week: []api.Nth{{N: -2, Day: 3}}}
	want = clause.Full()
	want.End, want.Hour, want.Minute, want.Second = mask.Of(1, 3), 1, 1, 1<<5
	want.Ord = api.Ord{In: 1, Back: true}
	want.Ord.Days[3] = 1 << 2
	want.Unit, want.Step, want.Anchor, want.From = api.Month, api.MaxInterval, 5, 5
	if c, e := Clause(r); c != want || e != api.OK {
		t.Errorf("Clause: %+v, %v", c, e)
	}
	for _, x := range []struct {
		change func(r *api.Rule)
		e      api.Errno
	}{
		{func(r *api.Rule) { r.Interval = api.MaxInterval + 1 }, api.ErrLarge}, {func(r *api.Rule) { r.Count = api.MaxCount + 1 }, api.ErrLarge}, {func(r *api.Rule) { r.Interval, r.Count = 1e15, 1e15 }, api.ErrLarge},
		{func(r *api.Rule) { r.Interval, r.Freq = 1e15, 9 }, api.ErrRange}, {func(r *api.Rule) { r.Count, r.Until = 1e15, 5 }, api.ErrMix}, {func(r *api.Rule) { r.Interval = 0 }, api.ErrRange},
	} {
		r := daily(0)
		x.change(&r)
		if c, e := Clause(r); c != (api.Clause{}) || e != x.e {
			t.Errorf("Clause: %v, want %v", e, x.e)
		}
		if cs, e := Lower(r); cs != nil || e != x.e {
			t.Errorf("Lower: %v, want %v", e, x.e)
		}
	}
}

func TestCount(t *testing.T) { // 35.1, 35.2
	r := daily(0)
	r.Count = 3
	set, e := Lower(r)
	if got := slices.Collect(seek.All(set, 0, api.End)); e != api.OK || len(set) != 1 || set[0].Until != 172800 || !slices.Equal(got, []int64{0, 86400, 172800}) {
		t.Errorf("the example: %v, %v", got, e)
	}
	r.Count = 1
	if set, _ := Lower(r); set[0].Until != 0 {
		t.Errorf("Count 1: %d", set[0].Until)
	}
	r.Start, r.Count = (api.Days-3)*86400, 4
	if set, _ := Lower(r); set[0].Until != api.End-1 {
		t.Errorf("fewer than Count: %d", set[0].Until)
	}
	r.Count = 3
	if set, _ := Lower(r); set[0].Until != (api.Days-1)*86400 {
		t.Errorf("just as many as Count: %d", set[0].Until)
	}
	r = api.Rule{Start: 100, Freq: api.Second, Interval: 7, Count: api.MaxCount, Until: -1}
	if set, _ := Lower(r); set[0].Until != 100+7*999999 {
		t.Errorf("the greatest Count: %d", set[0].Until)
	}
	r = api.Rule{Start: 100, Freq: api.Year, Interval: 1, Count: 5, Until: -1, Months: []int{2}, Days: []int{30}}
	if set, e := Lower(r); set[0].Until != api.End-1 || e != api.OK {
		t.Error("none at all")
	}
}

// unitOf is which unit a moment lies in.
func unitOf(freq int, x int64) int64 {
	d := time.Unix(x, 0).UTC()
	switch freq {
	case api.Second:
		return x
	case api.Minute:
		return x / 60
	case api.Hour:
		return x / 3600
	case api.Day:
		return x / 86400
	case api.Week:
		return (x/86400 + 3) / 7
	case api.Month:
		return int64(d.Year()*12 + int(d.Month()))
	}
	return int64(d.Year())
}

// means tells whether a rule with Months, Days, plain Week and Hours, whose other parts are its start's, means an instant.
func means(r api.Rule, x int64) bool {
	d, s := time.Unix(x, 0).UTC(), time.Unix(r.Start, 0).UTC()
	in := func(l []int, n int, without bool) bool { return len(l) == 0 && without || slices.Contains(l, n) }
	last := d.AddDate(0, 0, 1-d.Day()).AddDate(0, 1, -1).Day()
	noDays := len(r.Days) == 0 && len(r.Week) == 0
	days := in(r.Days, d.Day(), true) || slices.Contains(r.Days, d.Day()-last-1)
	if noDays && r.Freq >= api.Month {
		days = d.Day() == s.Day()
	}
	week := slices.ContainsFunc(r.Week, func(n api.Nth) bool { return n.Day%7 == int(d.Weekday()) }) || len(r.Week) == 0 && (r.Freq != api.Week || d.Weekday() == s.Weekday())
	return x >= r.Start && (r.Until == -1 || x <= r.Until) && days && week &&
		in(r.Months, int(d.Month()), r.Freq != api.Year || !noDays || d.Month() == s.Month()) &&
		in(r.Hours, d.Hour(), r.Freq < api.Day || d.Hour() == s.Hour()) &&
		(r.Freq < api.Hour || d.Minute() == s.Minute()) && (r.Freq < api.Minute || d.Second() == s.Second()) &&
		(unitOf(r.Freq, x)-unitOf(r.Freq, r.Start))%r.Interval == 0
}

func TestMeaning(t *testing.T) { // 35.2
	r := rand.New(rand.NewSource(35))
	hits := 0
	for range 150 {
		x := api.Rule{Start: r.Int63n(50 * 365 * 86400), Freq: r.Intn(api.Units), Interval: 1 + r.Int63n(4), Until: -1}
		if r.Intn(2) == 0 {
			x.Months = []int{1 + r.Intn(12), 1 + r.Intn(12), 2}
		}
		if r.Intn(2) == 0 && x.Freq != api.Week {
			sign := 1 - 2*r.Intn(2)
			x.Days = []int{sign * (1 + r.Intn(31)), sign}
		}
		if r.Intn(2) == 0 {
			x.Week = []api.Nth{{N: 0, Day: 1 + r.Intn(7)}, {N: 0, Day: 7}}
		}
		if r.Intn(2) == 0 {
			x.Hours = []int{r.Intn(24), 5}
		}
		if r.Intn(3) == 0 {
			x.Until = x.Start + r.Int63n(1e9)
		}
		set, e := Lower(x)
		if e != api.OK {
			t.Fatalf("%+v: %v", x, e)
		}
		for range 3000 {
			at := x.Start + r.Int63n(1e9) - 1e7
			switch r.Intn(5) {
			case 0:
				at = x.Start + r.Int63n(4000)*86400
			case 1:
				at -= (at - x.Start) % 3600
			case 2:
				at = x.Start + r.Int63n(4000)*86400 + (int64(r.Intn(24))-x.Start/3600%24)*3600
			}
			if at < 0 || at >= api.End {
				continue
			}
			if means(x, at) {
				hits++
			}
			if ir.Has(set, at) != means(x, at) {
				t.Fatalf("%+v: %v: %v", x, time.Unix(at, 0).UTC(), means(x, at))
			}
		}
	}
	if hits < 1000 {
		t.Errorf("%d were meant", hits)
	}
}
