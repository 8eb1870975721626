package spell

import (
	"math"
	"math/rand"
	"slices"
	"testing"

	"feria/api"
	"feria/clause"
	"feria/ir"
	"feria/mask"
	"feria/meet"
	"feria/plan"
	"feria/wide"
)

// with is Full, changed.
func with(change func(c *api.Clause)) api.Clause {
	c := clause.Full()
	change(&c)
	return c
}

func TestNumbers(t *testing.T) { // 47.1
	names := []string{"zero", "one", "", "three"}
	for _, c := range []struct {
		ns    []int
		names []string
		want  string
	}{
		{nil, nil, "none"}, {[]int{5}, nil, "5"}, {[]int{1, 2, 3, 7, 9, 20}, nil, "1 to 3, 7, 9, 20"}, {[]int{0, 15, 30, 45}, nil, "0 to 45 by 15"}, {[]int{0, 2}, nil, "0, 2"}, {[]int{4, 5}, nil, "4 to 5"},
		{[]int{0, 1, 2, 3, 4}, names, "zero to 4"}, {[]int{1, 2, 3}, names, "one to three"}, {[]int{0, 2, 7}, names, "zero, 2, 7"}, {[]int{2, 1}, names, "none"}, {[]int{-1, 1}, names, "none"}, {[]int{10000}, names, "none"}, {[]int{9999}, names, "9999"},
	} {
		if got := Numbers(c.ns, c.names); got != c.want {
			t.Errorf("Numbers(%v) = %q, want %q", c.ns, got, c.want)
		}
	}
}

func TestClause(t *testing.T) { // 47.2
	ord := func(in int, back bool, l ...int) api.Ord {
		o := api.Ord{In: in, Back: back}
		for i := 0; i < len(l); i += 2 {
			o.Days[l[i]] |= mask.Of(l[i+1])
		}
		return o
	}
	for _, c := range []struct {
		change func(c *api.Clause)
		want   string
	}{
		{func(c *api.Clause) {}, "always"},
		{func(c *api.Clause) { c.Second, c.Minute, c.Hour = 1, mask.Of(0, 15, 30, 45), mask.Of(9, 10) }, "second 0; minute 0 to 45 by 15; hour 9 to 10"},
		{func(c *api.Clause) { c.Second, c.Week = 0, 0 }, "second none; weekday none"},
		{func(c *api.Clause) { c.Dom, c.Week = 1<<13, mask.Of(1, 3, 5, 7) }, "day 13; weekday Mon to Sun by 2"},
		{func(c *api.Clause) { c.Dom, c.Week, c.Or = 1<<13, 1<<5, true }, "day 13 or weekday Fri"},
		{func(c *api.Clause) { c.Or = true }, "day 1 to 31 or weekday Mon to Sun"},
		{func(c *api.Clause) { c.Or, c.Second, c.End = true, 2, 2 }, "second 1; day 1 to 31 or weekday Mon to Sun; end 1"},
		{func(c *api.Clause) { c.End, c.Month, c.Years = mask.Of(1, 2), mask.Of(2, 12), wide.Of(0, 4, 8, 399) }, "end 1 to 2; month Feb, Dec; year 1970 to 1978 by 4, 2369"},
		{func(c *api.Clause) { c.Years = wide.Of() }, "year none"},
		{func(c *api.Clause) { c.Ord = ord(1, false, 5, 1, 1, 2, 1, 1) }, "1. Mon, 2. Mon, 1. Fri of the month"},
		{func(c *api.Clause) { c.Ord = ord(2, true, 7, 53) }, "53. Sun of the year from its end"},
		{func(c *api.Clause) { c.Ord = ord(1, true) }, "none of the month from its end"}, {func(c *api.Clause) { c.Ord = ord(2, false) }, "none of the year"},
		{func(c *api.Clause) { c.Unit, c.Step, c.Anchor = api.Week, 2, 4*86400 }, "every 2 weekly from 1970-01-05 00:00:00"},
		{func(c *api.Clause) { c.Unit, c.Anchor = api.Week, 4*86400 }, "always"},
		{func(c *api.Clause) { c.From, c.Until = 86400, 86401 }, "from 1970-01-02 00:00:00; until 1970-01-02 00:00:01"},
		{func(c *api.Clause) { c.From, c.Until = -5, api.End-1 }, "always"}, {func(c *api.Clause) { c.From, c.Until = math.MinInt64, math.MaxInt64 }, "always"}, {func(c *api.Clause) { c.From = api.End }, "from never"}, {func(c *api.Clause) { c.Until = -1 }, "until never"}, {func(c *api.Clause) { c.From, c.Until = 1, 0 }, "from 1970-01-01 00:00:01; until 1970-01-01 00:00:00"},
		{func(c *api.Clause) {
			c.Dom, c.Month, c.Years, c.Ord, c.Unit, c.Step, c.From, c.Until = 2, 2, wide.Of(1), ord(1, false, 1, 1), api.Second, 7, 1, 2
		}, "day 1; month Jan; year 1971; 1. Mon of the month; every 7 secondly from 1970-01-01 00:00:00; from 1970-01-01 00:00:01; until 1970-01-01 00:00:02"},
	} {
		if got, e := Clause(with(c.change)); got != c.want || e != api.OK {
			t.Errorf("Clause: %q, %v; want %q", got, e, c.want)
		}
	}
	if s, e := Clause(api.Clause{}); s != "" || e != api.ErrArg {
		t.Errorf("Clause: %q, %v", s, e)
	}
}

func TestSetPlan(t *testing.T) { // 47.2
	if s, e := Set([]api.Clause{clause.Full(), with(func(c *api.Clause) { c.Hour = 2 })}); s != "always\nhour 1\n" || e != api.OK {
		t.Errorf("Set: %q, %v", s, e)
	}
	if s, e := Set(nil); s != "" || e != api.OK {
		t.Errorf("Set of none: %q, %v", s, e)
	}
	for _, c := range []struct {
		cs []api.Clause
		e  api.Errno
	}{{[]api.Clause{clause.Full(), {}}, api.ErrArg}, {slices.Repeat(ir.Whole(), 9), api.ErrLong}} {
		if s, e := Set(c.cs); s != "" || e != c.e {
			t.Errorf("Set: %q, %v", s, e)
		}
	}
	for s, want := range map[string]string{
		"0 9 * * 1-5": "second 0; minute 0; hour 9; weekday Mon to Fri\n", "0 0 13 * 5": "second 0; minute 0; hour 0; day 13 or weekday Fri\n", "*-02~01": "second 0; minute 0; hour 0; end 1; month Feb\n", "*-*-* *:*:*": "always\n",
		"DTSTART:19700105T090000Z\nRRULE:FREQ=WEEKLY;INTERVAL=2;COUNT=2": "second 0; minute 0; hour 9; weekday Mon; every 2 weekly from 1970-01-05 09:00:00; from 1970-01-05 09:00:00; until 1970-01-19 09:00:00\n",
	} {
		p, _ := plan.Guess(s)
		if got, e := Plan(p); got != want || e != api.OK {
			t.Errorf("Plan of %q: %q, %v", s, got, e)
		}
	}
	for _, c := range []struct {
		p api.Plan
		e api.Errno
	}{{api.Plan{Lang: 3}, api.ErrArg}, {api.Plan{}, api.ErrLack}, {api.Plan{Lang: api.LangRule, Rule: api.Rule{Freq: 3, Interval: 1e15, Until: -1}}, api.ErrLarge}} {
		if s, e := Plan(c.p); s != "" || e != c.e {
			t.Errorf("Plan: %q, %v", s, e)
		}
	}
}

func TestToldAlike(t *testing.T) { // 47.3
	r := rand.New(rand.NewSource(47))
	told := map[string]api.Clause{}
	alike := 0
	for range 3000 {
		c := with(func(c *api.Clause) {
			c.Minute = []uint64{c.Minute, 1, 3}[r.Intn(3)]
			c.Week = []uint64{c.Week, 2}[r.Intn(2)]
			c.Dom = []uint64{c.Dom, 2}[r.Intn(2)]
			c.Or = r.Intn(2) == 0
			c.Ord.In = r.Intn(3)
			if c.Ord.In > 0 {
				c.Ord.Days[1] = []uint64{0, 2, 6}[r.Intn(3)]
			}
			c.Unit, c.Step, c.Anchor = r.Intn(api.Units), 1+r.Int63n(2), r.Int63n(2)*86400*40
			c.From, c.Until = []int64{-9, 0, 7}[r.Intn(3)], []int64{api.End - 1, api.End + 5, 86400 * 900}[r.Intn(3)]
		})
		s, e := Clause(c)
		if e != api.OK {
			t.Fatal(e)
		}
		other, ok := told[s]
		told[s] = c
		if !ok || other == c {
			continue
		}
		alike++
		if alike > 60 {
			break
		}
		if v, _ := meet.Equal([]api.Clause{c}, []api.Clause{other}); !v.Yes {
			t.Fatalf("%q: %+v, %+v", s, c, other)
		}
	}
	if alike < 10 {
		t.Errorf("%d were told alike", alike)
	}
}
