package deno

import (
	"math"
	"math/rand"
	"slices"
	"testing"

	"feria/api"
	"feria/ir"
	"feria/plan"
	"feria/rulelow"
	"feria/seek"
	"feria/tally"
)

const head = "DTSTART:19700105T090000Z\nRRULE:FREQ="

func read(t *testing.T, s string) api.Plan {
	t.Helper()
	p, e := plan.Guess(s)
	if e != api.OK {
		t.Fatalf("%q: %v", s, e)
	}
	return p
}

// at is an instant by its day, and its hour, minute and second.
func at(day int64, h, m, s int64) int64 { return day*86400 + h*3600 + m*60 + s }

func TestWhy(t *testing.T) { // 42.2, 42.1
	for _, c := range []struct {
		s    string
		t    int64
		want string
	}{
		{"0 9 * * 1-5", 0, "hour"}, {"0 9 * * 1-5", at(0, 9, 0, 0), "meant"}, {"0 9 * * 1-5", at(0, 9, 0, 1), "second"}, {"0 9 * * 1-5", at(2, 9, 1, 0), "minute"}, {"0 9 * * 1-5", at(2, 9, 0, 0), "weekday"}, {"0 9 * * 1-5", -1, "outside"}, {"0 9 * * 1-5", api.End, "outside"}, {"0 9 * * 1-5", math.MinInt64, "outside"},
		{"0 9 2 1 *", at(0, 9, 0, 0), "day"}, {"0 9 1 2 *", at(0, 9, 0, 0), "month"}, {"0 9 2 2 1", at(0, 9, 0, 0), "month"}, {"0 0 13 * 5", at(0, 0, 0, 0), "day"}, {"0 0 13 * 5", at(1, 0, 0, 0), "meant"}, {"0 0 13 * 5", at(12, 0, 0, 0), "meant"}, {"0 0 */2 * 5", at(1, 0, 0, 0), "day"}, {"0 0 */2 * 5", at(2, 0, 0, 0), "weekday"}, {"0 0 * * 0", at(3, 0, 0, 0), "meant"}, {"0 0 * * 7", at(3, 0, 0, 0), "meant"}, {"0 0 * * 6", at(3, 0, 0, 0), "weekday"},
		{"Mon 1971-2-5 1:2:3", at(0, 0, 0, 0), "second"}, {"Mon 1971-2-5 1:2:3", at(0, 0, 0, 3), "minute"}, {"Mon 1971-2-5 1:2:3", at(0, 0, 2, 3), "hour"}, {"Mon 1971-2-5 1:2:3", at(0, 1, 2, 3), "month"}, {"Mon 1971-2-5 1:2:3", at(31, 1, 2, 3), "year"}, {"Mon 1971-2-5 1:2:3", at(365+31, 1, 2, 3), "day"}, {"Mon 1971-2-5 1:2:3", at(365+35, 1, 2, 3), "weekday"}, {"Fri 1971-2-5 1:2:3", at(365+35, 1, 2, 3), "meant"},
		{"*-02~01", at(58, 0, 0, 0), "meant"}, {"*-02~01", at(57, 0, 0, 0), "day"}, {"*-*-*", at(57, 0, 0, 0), "meant"}, {"daily", api.End, "outside"},
		{head + "DAILY", at(4, 9, 0, 0), "meant"}, {head + "DAILY", at(3, 9, 0, 0), "early"}, {head + "DAILY", at(4, 8, 59, 59), "early"}, {head + "DAILY;UNTIL=19700106T090000Z", at(6, 9, 0, 1), "late"}, {head + "DAILY;UNTIL=19700106T090000Z", at(5, 9, 0, 0), "meant"}, {head + "DAILY", -5, "outside"},
		{head + "DAILY", at(5, 9, 1, 1), "second"}, {head + "DAILY", at(5, 10, 1, 0), "minute"}, {head + "DAILY", at(5, 10, 0, 0), "hour"}, {head + "DAILY;BYMONTH=2", at(5, 9, 0, 0), "month"}, {head + "DAILY;BYMONTHDAY=7", at(5, 9, 0, 0), "day"}, {head + "DAILY;BYMONTHDAY=-1", at(5, 9, 0, 0), "day"}, {head + "DAILY;BYMONTHDAY=-1", at(30, 9, 0, 0), "meant"},
		{head + "WEEKLY", at(5, 9, 0, 0), "weekday"}, {head + "MONTHLY;BYDAY=2MO", at(4, 9, 0, 0), "weekday"}, {head + "MONTHLY;BYDAY=2MO", at(11, 9, 0, 0), "meant"}, {head + "MONTHLY;BYDAY=-1SA", at(30, 9, 0, 0), "meant"}, {head + "YEARLY;BYDAY=9SA", at(58, 9, 0, 0), "meant"}, {head + "YEARLY;BYDAY=9SA", at(51, 9, 0, 0), "weekday"}, {head + "YEARLY;BYDAY=-1TH", at(364, 9, 0, 0), "meant"}, {head + "YEARLY;BYDAY=-1TH", at(357, 9, 0, 0), "weekday"},
		{head + "DAILY;INTERVAL=2", at(5, 9, 0, 0), "step"}, {head + "DAILY;INTERVAL=2", at(6, 9, 0, 0), "meant"}, {head + "SECONDLY;INTERVAL=7", at(4, 9, 0, 8), "step"}, {head + "WEEKLY;INTERVAL=2", at(11, 9, 0, 0), "step"}, {head + "DAILY;COUNT=3", at(6, 9, 0, 0), "meant"}, {head + "DAILY;COUNT=3", at(7, 9, 0, 0), "count"}, {head + "DAILY;COUNT=1", at(4, 9, 0, 0), "meant"}, {head + "DAILY;COUNT=1", at(5, 9, 0, 0), "count"}, {head + "DAILY;COUNT=3;INTERVAL=2", at(9, 9, 0, 0), "step"},
	} {
		p := read(t, c.s)
		if w, e := Why(p, c.t); w != c.want || e != api.OK {
			t.Errorf("Why(%q, %d) = %q, %v; want %q", c.s, c.t, w, e, c.want)
		}
		if ok, e := Means(p, c.t); ok != (c.want == "meant") || e != api.OK {
			t.Errorf("Means(%q, %d) = %v, %v", c.s, c.t, ok, e)
		}
	}
	for _, c := range []struct {
		p api.Plan
		e api.Errno
	}{{api.Plan{Lang: 3}, api.ErrArg}, {api.Plan{Lang: -1}, api.ErrArg}, {api.Plan{}, api.ErrLack}, {api.Plan{Lang: api.LangCal}, api.ErrLack}, {api.Plan{Lang: api.LangRule}, api.ErrRange}, {api.Plan{Lang: api.LangRule, Rule: api.Rule{Freq: 3, Interval: 1e12, Until: -1}}, api.ErrLarge}} {
		for _, x := range []int64{0, -1} {
			if w, e := Why(c.p, x); w != "" || e != c.e {
				t.Errorf("Why: %q, %v; want %v", w, e, c.e)
			}
			if ok, e := Means(c.p, x); ok || e != c.e {
				t.Errorf("Means: %v, %v; want %v", ok, e, c.e)
			}
		}
	}
}

func TestUpto(t *testing.T) { // 42.1
	for _, c := range []struct {
		s    string
		t, n int64
	}{
		{head + "DAILY", at(4, 9, 0, 0), 1}, {head + "DAILY", at(4, 8, 0, 0), 0}, {head + "DAILY", math.MinInt64, 0}, {head + "DAILY;COUNT=3", at(10, 9, 0, 0), 7}, {head + "DAILY", math.MaxInt64, api.Days - 4}, {head + "DAILY;UNTIL=19700110T090000Z", math.MaxInt64, 6},
		{head + "SECONDLY", at(4, 9, 0, 9), 10}, {head + "SECONDLY", math.MaxInt64, 1000001}, {head + "SECONDLY", at(4, 9, 0, 0) + 999999, 1000000}, {head + "SECONDLY", at(4, 9, 0, 0) + 1000000, 1000001}, {head + "SECONDLY", at(4, 9, 0, 0) + 1000001, 1000001},
		{head + "MINUTELY;INTERVAL=7;BYSECOND=1,2", at(4, 9, 7, 1), 3}, {head + "HOURLY;INTERVAL=100000000000", math.MaxInt64, 1}, {head + "DAILY;BYMONTH=2;BYMONTHDAY=30", math.MaxInt64, 0},
	} {
		if n, e := Upto(read(t, c.s).Rule, c.t); n != c.n || e != api.OK {
			t.Errorf("Upto(%q, %d) = %d, %v; want %d", c.s, c.t, n, e, c.n)
		}
	}
	for _, c := range []struct {
		r api.Rule
		e api.Errno
	}{{api.Rule{}, api.ErrRange}, {api.Rule{Freq: 3, Interval: 1, Count: 1e7, Until: -1}, api.ErrLarge}} {
		if n, e := Upto(c.r, 0); n != 0 || e != c.e {
			t.Errorf("Upto: %d, %v", n, e)
		}
	}
}

// some is a rule by chance.
func some(r *rand.Rand) api.Rule {
	x := api.Rule{Start: r.Int63n(9e9), Freq: r.Intn(api.Units), Interval: 1 + r.Int63n(5), Until: -1}
	few := func(lo, hi int) []int {
		l := []int{lo + r.Intn(hi-lo+1), lo + r.Intn(hi-lo+1)}
		return l[:r.Intn(3)]
	}
	sign := 1 - 2*r.Intn(2)
	x.Months, x.Hours, x.Minutes, x.Seconds = few(1, 12), few(0, 23), few(0, 59), few(0, 59)
	if x.Freq != api.Week {
		for _, d := range few(1, 31) {
			x.Days = append(x.Days, sign*d)
		}
	}
	n := 0
	if x.Freq >= api.Month && r.Intn(2) == 0 {
		n = 1 + r.Intn(4)
	}
	for _, d := range few(1, 7) {
		x.Week = append(x.Week, api.Nth{N: sign * n, Day: d})
	}
	if x.Freq < api.Day {
		x.Interval *= 1 + r.Int63n(500)
	}
	switch r.Intn(3) {
	case 0:
		x.Until = min(api.End-1, x.Start+r.Int63n(1e9))
	case 1:
		x.Count = 1 + r.Int63n(50)
	}
	return x
}

func TestTheSameMeaning(t *testing.T) { // 42.3
	r := rand.New(rand.NewSource(42))
	plans := []api.Plan{}
	for _, s := range []string{"0 0 13 * 5", "0 0 */2 * 5", "*/7 3 1,31 2,4 *", "5 5 * * 6-7", "*-02~01", "Mon,Fri 2000..2300/7-*-*/3 9..17:0/5:*", "*-*~1..9/2 0:0"} {
		if p, e := plan.Guess(s); e == api.OK {
			plans = append(plans, p)
		}
	}
	for range 60 {
		plans = append(plans, api.Plan{Lang: api.LangRule, Rule: some(r)})
	}
	meant := 0
	for _, p := range plans {
		set, e := plan.Lower(p)
		if e != api.OK {
			t.Fatalf("%+v: %v", p, e)
		}
		xs := []int64{0, api.End - 1, p.Rule.Start}
		for range 60 {
			x := r.Int63n(api.End)
			xs = append(xs, x, x-x%60, x-x%86400)
		}
		near, _ := seek.Some(set, r.Int63n(9e9), 20)
		first, _ := seek.Some(set, -1, 20)
		for _, x := range slices.Concat(near, first) {
			xs = append(xs, x-1, x, x+1, x+86400)
		}
		for _, x := range xs {
			ok, e := Means(p, x)
			if ok != ir.Has(set, x) || e != api.OK {
				why, _ := Why(p, x)
				t.Fatalf("%+v: %d: %q", p, x, why)
			}
			if ok {
				meant++
			}
		}
	}
	if meant < 1000 {
		t.Errorf("%d were meant", meant)
	}
}

func TestUptoIsTheCount(t *testing.T) { // 42.1
	r := rand.New(rand.NewSource(43))
	for range 100 {
		x := some(r)
		c, _ := rulelow.Clause(x)
		at := x.Start + r.Int63n(2e8)
		want, _ := tally.Count([]api.Clause{c}, 0, at)
		if n, e := Upto(x, at); n != min(want, 1000001) || e != api.OK {
			t.Fatalf("Upto(%+v, %d) = %d, %v; want %d", x, at, n, e, want)
		}
	}
}
