package torule

import (
	"math/rand"
	"slices"
	"testing"

	"feria/api"
	"feria/cast"
	"feria/clause"
	"feria/ir"
	"feria/mask"
	"feria/meet"
	"feria/pulse"
	"feria/rule"
	"feria/rulelow"
	"feria/ruleread"
	"feria/ruleshow"
)

func lower(t *testing.T, s string) []api.Clause {
	t.Helper()
	r, _, e := ruleread.Read("DTSTART:" + s)
	if e != api.OK {
		t.Fatalf("%q: %v", s, e)
	}
	set, _ := rulelow.Lower(r)
	return set
}

func text(r api.Rule) string {
	s, _ := ruleshow.Show(r)
	return s
}

// face is a face and a pulse with little of each part.
func face() (cast.Face, [7]int64) {
	f := cast.Face{Second: mask.Of(0, 5), Minute: mask.Of(1), Hour: mask.Of(2), Month: mask.Of(1, 3), Dom: mask.Of(4, 6), End: mask.Of(2, 9), Week: mask.Of(1, 7), First: 77, Last: 7777777, Days: 5}
	f.InMonth[1], f.InMonth[7] = mask.Of(1, 5), mask.Of(2)
	f.OffMonth[1] = mask.Of(1, 5)
	f.InYear[7] = mask.Of(50, 53)
	f.OffYear[7], f.OffYear[1] = mask.Of(2, 1), mask.Of(3)
	return f, [7]int64{10, 11, 12, 13, 14, 15, 0}
}

func TestRules(t *testing.T) { // 38.1
	f, p := face()
	base := api.Rule{Start: 77, Until: 7777777, Hours: []int{2}, Minutes: []int{1}, Seconds: []int{0, 5}}
	dom, end, months := []int{4, 6}, []int{-2, -9}, []int{1, 3}
	week := []api.Nth{{Day: 1}, {Day: 7}}
	in := []api.Nth{{N: 1, Day: 1}, {N: 5, Day: 1}, {N: 2, Day: 7}}
	off := []api.Nth{{N: -1, Day: 1}, {N: -5, Day: 1}}
	inYear := []api.Nth{{N: 50, Day: 7}, {N: 53, Day: 7}}
	offYear := []api.Nth{{N: -3, Day: 1}, {N: -1, Day: 7}, {N: -2, Day: 7}}
	var want []api.Rule
	add := func(freq int, interval int64, months, days []int, week []api.Nth) {
		r := base
		r.Freq, r.Interval, r.Months, r.Days, r.Week = freq, interval, months, days, week
		want = append(want, r)
	}
	add(api.Day, 13, months, dom, week)
	add(api.Day, 13, months, end, week)
	add(api.Week, 14, months, nil, week)
	for freq, n := range map[int]int64{api.Month: 15} {
		for _, days := range [][]int{dom, end} {
			for _, w := range [][]api.Nth{week, in, off} {
				add(freq, n, months, days, w)
			}
		}
	}
	for _, days := range [][]int{dom, end} {
		for _, w := range [][]api.Nth{week, in, off} {
			add(api.Year, 1, months, days, w)
		}
	}
	for _, days := range [][]int{dom, end} {
		for _, w := range [][]api.Nth{inYear, offYear} {
			add(api.Year, 1, nil, days, w)
		}
	}
	for _, freq := range []int{api.Hour, api.Minute, api.Second} {
		add(freq, p[freq], months, dom, week)
		add(freq, p[freq], months, end, week)
	}
	got := Rules(f, p)
	if len(got) != len(want) {
		t.Fatalf("%d rules, want %d", len(got), len(want))
	}
	for i := range want {
		if !rule.Same(got[i], want[i]) || rule.Check(got[i]) != api.OK {
			t.Errorf("rule %d: %+v, want %+v", i, got[i], want[i])
		}
	}
	f.Days = 0
	if Rules(f, p) != nil {
		t.Error("a face without days")
	}
	f, _ = face()
	for d := range 8 {
		f.InYear[d] = mask.Span(1, 53, 1) // too many items
	}
	if got := Rules(f, p); len(got) != len(want)-2 {
		t.Errorf("rules that may not be: %d, want %d", len(got), len(want)-2)
	}
	if got := Rules(f, [7]int64{-1, -1, -1, -1, -1, -1, -1}); len(got) != 0 {
		t.Errorf("of no pulse: %d", len(got))
	}
}

func TestRaise(t *testing.T) { // 38.2
	for _, c := range []struct{ s, want string }{
		{"19700105T090000Z\nRRULE:FREQ=WEEKLY;INTERVAL=4", "19700105T090000Z\nRRULE:FREQ=DAILY;INTERVAL=28"},
		{"19700105T090000Z\nRRULE:FREQ=WEEKLY;INTERVAL=2;BYDAY=MO,TU", "19700105T090000Z\nRRULE:FREQ=WEEKLY;INTERVAL=2;BYDAY=MO,TU"},
		{"19700101T000000Z\nRRULE:FREQ=DAILY;COUNT=3", "19700101T000000Z\nRRULE:FREQ=DAILY;UNTIL=19700103T000000Z"},
		{"19700101T000000Z\nRRULE:FREQ=DAILY", "19700101T000000Z\nRRULE:FREQ=DAILY"},
		{"19700101T000000Z\nRRULE:FREQ=YEARLY;BYMONTH=2;BYMONTHDAY=-1", "19700228T000000Z\nRRULE:FREQ=DAILY;BYMONTH=2;BYMONTHDAY=-1"},
		{"19700101T000000Z\nRRULE:FREQ=YEARLY;BYDAY=20MO", "19700518T000000Z\nRRULE:FREQ=YEARLY;BYDAY=20MO"},
		{"19700101T000000Z\nRRULE:FREQ=MONTHLY;BYDAY=-1FR,-1TH", "19700129T000000Z\nRRULE:FREQ=DAILY;BYMONTHDAY=-1,-2,-3,-4,-5,-6,-7;BYDAY=TH,FR"},
		{"19700101T000000Z\nRRULE:FREQ=MONTHLY;BYDAY=-1FR,-2TH", "19700122T000000Z\nRRULE:FREQ=MONTHLY;BYDAY=-2TH,-1FR"},
		{"19700101T000000Z\nRRULE:FREQ=SECONDLY;INTERVAL=7", "19700101T000000Z\nRRULE:FREQ=SECONDLY;INTERVAL=7"},
		{"19700101T000003Z\nRRULE:FREQ=HOURLY;INTERVAL=5;BYMINUTE=0,30;BYSECOND=3", "19700101T000003Z\nRRULE:FREQ=HOURLY;INTERVAL=5;BYMINUTE=0,30"},
		{"19700101T050607Z\nRRULE:FREQ=DAILY;BYMONTH=2;BYMONTHDAY=30", "19700101T000000Z\nRRULE:FREQ=YEARLY;BYMONTH=2;BYMONTHDAY=30"},
		{"23691231T235959Z\nRRULE:FREQ=YEARLY", "23691231T235959Z\nRRULE:FREQ=DAILY"},
	} {
		r, e := Raise(lower(t, c.s))
		if text(r) != "DTSTART:"+c.want || e != api.OK {
			t.Errorf("Raise of %q: %q, %v", c.s, text(r), e)
		}
	}
	whole := ir.Whole()
	whole[0].Until = api.End - 2
	if r, e := Raise(whole); r.Until != api.End-2 || e != api.OK {
		t.Errorf("all but the last instant: until %d, %v", r.Until, e)
	}
	if r, e := Raise(ir.Whole()); r.Until != -1 || e != api.OK {
		t.Errorf("all: until %d, %v", r.Until, e)
	}
	if r, e := Raise(nil); !rule.Same(r, api.Rule{Freq: api.Year, Interval: 1, Until: -1, Months: []int{2}, Days: []int{30}}) || e != api.OK {
		t.Errorf("Raise of nothing: %+v, %v", r, e)
	}
	full := clause.Full()
	for i, change := range []func(c *api.Clause){
		func(c *api.Clause) { c.Dom, c.Week, c.Or = 1<<13, 1<<5, true }, func(c *api.Clause) { c.Years[0] = 5 }, func(c *api.Clause) { c.Dom, c.End = 1<<5|1<<30, 1<<1|1<<27 },
	} {
		set := []api.Clause{full}
		change(&set[0])
		if r, e := Raise(set); !rule.Same(r, api.Rule{}) || e != api.ErrNone {
			t.Errorf("set %d: %q, %v", i, text(r), e)
		}
	}
	for _, c := range []struct {
		cs []api.Clause
		e  api.Errno
	}{{[]api.Clause{{}}, api.ErrArg}, {slices.Repeat(ir.Whole(), 9), api.ErrLong}} {
		if r, e := Raise(c.cs); !rule.Same(r, api.Rule{}) || e != c.e {
			t.Errorf("Raise: %v, want %v", e, c.e)
		}
	}
}

// some is a rule by chance.
func some(r *rand.Rand) api.Rule {
	x := api.Rule{Start: r.Int63n(api.End), Freq: r.Intn(api.Units), Interval: 1 + r.Int63n(6), Until: -1}
	few := func(lo, hi int) []int {
		l := []int{lo + r.Intn(hi-lo+1), lo + r.Intn(hi-lo+1)}
		return l[:r.Intn(3)]
	}
	sign := 1 - 2*r.Intn(2)
	x.Months, x.Hours = few(1, 12), few(0, 23)
	if x.Freq != api.Week {
		for _, d := range few(1, 31) {
			x.Days = append(x.Days, sign*d)
		}
	}
	n := 0
	if x.Freq >= api.Month && r.Intn(2) == 0 {
		n = 1 + r.Intn(4)
	}
	for _, d := range few(1, 7) {
		x.Week = append(x.Week, api.Nth{N: sign * n, Day: d})
	}
	if x.Freq < api.Day {
		x.Minutes = []int{r.Intn(60), 30}
		x.Interval *= 1 + r.Int63n(50)
	}
	switch r.Intn(3) {
	case 0:
		x.Until = min(api.End-1, x.Start+r.Int63n(1e9))
	case 1:
		x.Count = 1 + r.Int63n(50)
	}
	return x
}

func TestWhatFollows(t *testing.T) { // 38.3
	r := rand.New(rand.NewSource(38))
	for range 100 {
		x := some(r)
		set, e := rulelow.Lower(x)
		if e != api.OK {
			t.Fatalf("%+v: %v", x, e)
		}
		c, e := Raise(set)
		if e != api.OK || rule.Check(c) != api.OK {
			t.Fatalf("Raise of %q: %v", text(x), e)
		}
		means, _ := rulelow.Lower(c)
		if v, _ := meet.Equal(means, set); !v.Yes {
			t.Fatalf("Raise of %q: %q: %+v", text(x), text(c), v)
		}
		early, late := set[0], set[0] // the same set in two parts
		early.Until, late.From = min(x.Start+9e7, set[0].Until), x.Start+9e7+1
		for _, other := range [][]api.Clause{means, {early, late}, {late, early}} {
			if again, e := Raise(other); e != api.OK || !rule.Same(again, c) {
				t.Fatalf("Raise of %q: %q, and again: %q", text(x), text(c), text(again))
			}
		}
		f, _ := cast.Of(set)
		p, _ := pulse.Of(set)
		if f.Days > 0 && len(Rules(f, p)) == 0 {
			t.Fatalf("no rules of %q", text(x))
		}
	}
}
