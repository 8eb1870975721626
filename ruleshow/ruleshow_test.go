package ruleshow

import (
	"math/rand"
	"testing"

	"feria/api"
	"feria/rule"
	"feria/ruleread"
)

func TestWeekday(t *testing.T) { // 34.1
	for want, x := range map[string]api.Nth{"-1FR": {N: -1, Day: 5}, "MO": {N: 0, Day: 1}, "53SU": {N: 53, Day: 7}, "99WE": {N: 99, Day: 3}} {
		if got := Weekday(x); got != want {
			t.Errorf("Weekday(%v) = %q", x, got)
		}
	}
	for _, d := range []int{0, 8, -1} {
		if Weekday(api.Nth{N: 5, Day: d}) != "" {
			t.Errorf("Weekday of %d", d)
		}
	}
}

func TestShow(t *testing.T) { // 34.2
	for want, r := range map[string]api.Rule{
		"DTSTART:19700105T090000Z\nRRULE:FREQ=WEEKLY;BYDAY=MO,FR":                         {Start: 4*86400 + 9*3600, Freq: api.Week, Interval: 1, Until: -1, Week: []api.Nth{{N: 0, Day: 1}, {N: 0, Day: 5}}},
		"DTSTART:19700101T000000Z\nRRULE:FREQ=SECONDLY;INTERVAL=7;COUNT=1000000000000000": {Freq: api.Second, Interval: 7, Count: 1e15, Until: -1},
		"DTSTART:19700101T000000Z\nRRULE:FREQ=YEARLY;UNTIL=19700101T000000Z;BYMONTH=12,1;BYMONTHDAY=-1,-31;BYDAY=-1FR;BYHOUR=0,23;BYMINUTE=5;BYSECOND=59": {
			Freq: api.Year, Interval: 1, Months: []int{12, 1}, Days: []int{-1, -31}, Week: []api.Nth{{N: -1, Day: 5}}, Hours: []int{0, 23}, Minutes: []int{5}, Seconds: []int{59},
		},
	} {
		if s, e := Show(r); s != want || e != api.OK {
			t.Errorf("Show: %q, %v; want %q", s, e, want)
		}
	}
	for e, r := range map[api.Errno]api.Rule{
		api.ErrRange: {}, api.ErrMix: {Freq: api.Day, Interval: 1, Count: 1, Until: 5}, api.ErrLong: {Freq: api.Day, Interval: 1, Until: -1, Months: make([]int, 65)},
	} {
		if s, got := Show(r); s != "" || got != e {
			t.Errorf("Show: %q, %v; want %v", s, got, e)
		}
	}
}

// some is a rule by chance.
func some(r *rand.Rand) api.Rule {
	list := func(lo, hi int) []int {
		var l []int
		for range r.Intn(4) * r.Intn(4) {
			l = append(l, lo+r.Intn(hi-lo+1))
		}
		return l
	}
	x := api.Rule{Start: r.Int63n(api.End), Freq: r.Intn(api.Units), Interval: 1 + r.Int63n(3), Until: -1, Months: list(1, 12), Hours: list(0, 23), Minutes: list(0, 59), Seconds: list(0, 59)}
	switch r.Intn(4) {
	case 0:
		x.Count = 1 + r.Int63n(999999999999999)
	case 1:
		x.Until = r.Int63n(api.End)
	case 2:
		x.Interval = 1 + r.Int63n(999999999999999)
	}
	sign := 1 - 2*r.Intn(2)
	for _, d := range list(1, 31) {
		x.Days = append(x.Days, sign*d)
	}
	most := r.Intn(8)
	for _, d := range list(1, 7) {
		x.Week = append(x.Week, api.Nth{N: sign * r.Intn(1+most), Day: d})
	}
	return x
}

func TestThereAndBack(t *testing.T) { // 34.3
	r := rand.New(rand.NewSource(34))
	shown := 0
	for range 20000 {
		x := some(r)
		s, e := Show(x)
		if e != rule.Check(x) {
			t.Fatalf("%+v: %v", x, e)
		}
		if e != api.OK {
			continue
		}
		shown++
		got, n, wrong := ruleread.Read(s)
		if wrong != api.OK || n != len(s) || !rule.Same(got, x) {
			t.Fatalf("%+v: %q: %+v, %d, %v", x, s, got, n, wrong)
		}
	}
	if shown < 3000 {
		t.Errorf("%d were shown", shown)
	}
	s := "DTSTART:19700105T090000Z\nRRULE:WKST=MO;BYDAY=01MO,-0" // what isn't read isn't written
	if _, _, e := ruleread.Read(s); e == api.OK {
		t.Errorf("%q is read", s)
	}
	s = "DTSTART:19700105T090000Z\nRRULE:BYDAY=01MO,2FR;WKST=MO;INTERVAL=01;FREQ=MONTHLY"
	x, _, e := ruleread.Read(s)
	text, _ := Show(x)
	again, _, _ := ruleread.Read(text)
	if e != api.OK || !rule.Same(x, again) {
		t.Errorf("%q: %q", s, text)
	}
}
