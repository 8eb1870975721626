package day

import (
	"math"
	"testing"

	"feria/api"
	"feria/clause"
	"feria/mask"
	"feria/week"
	"feria/wide"
)

// with is Full, changed.
func with(change func(c *api.Clause)) api.Clause {
	c := clause.Full()
	change(&c)
	return c
}

var (
	leapDays = with(func(c *api.Clause) { c.Month, c.Dom = 1<<2, 1<<29 })
	mondays  = with(func(c *api.Clause) { c.Week, c.From, c.Until = 1<<1, 86400*4+500, 86400*11+5 })
	never    = with(func(c *api.Clause) { c.From, c.Until = 9, 8 })
	broken   = with(func(c *api.Clause) { c.Step = 0 })
	firsts   = with(func(c *api.Clause) { c.Dom, c.Years, c.Hour = 1<<1, wide.Of(0), 0 })
)

func TestActive(t *testing.T) { // 14.1
	cs := []api.Clause{broken, mondays, clause.Full(), never, leapDays}
	four, _ := week.Shape(4)
	if m := Active(cs, four); m != mask.Of(1, 2) {
		t.Errorf("Active: %b", m)
	}
	for n, want := range map[int64]uint64{3: 1 << 2, 11: mask.Of(1, 2), 18: 1 << 2, 789: mask.Of(2, 4)} {
		s, _ := week.Shape(n)
		if m := Active(cs, s); m != want {
			t.Errorf("day %d: %b", n, m)
		}
	}
	var many []api.Clause
	for range 64 {
		many = append(many, never)
	}
	if Active(append(many, clause.Full()), four) != 0 || Active(append(many[:63:63], clause.Full()), four) != 1<<63 || Active(nil, four) != 0 {
		t.Error("the places")
	}
	if Active(cs, api.Shape{Day: -1}) != 0 || Active(cs, api.Shape{Day: math.MaxInt}) != 0 {
		t.Error("days outside")
	}
}

func TestAll(t *testing.T) { // 14.1
	var got []int
	for s, m := range All(-5, math.MaxInt64, mondays, never, broken, firsts) {
		got = append(got, s.Day)
		if want := Active([]api.Clause{mondays, never, broken, firsts}, s); m != want || m == 0 {
			t.Errorf("day %d: %b, want %b", s.Day, m, want)
		}
	}
	if len(got) != 14 || got[0] != 0 || got[1] != 4 || got[2] != 11 || got[3] != 31 {
		t.Errorf("days %v", got)
	}
	seq := All(4, 11, mondays)
	for range 2 {
		n := 0
		for range seq {
			n++
		}
		if n != 2 {
			t.Errorf("%d days", n)
		}
	}
	for s := range seq {
		if s.Day != 4 {
			t.Error("more than wanted")
		}
		break
	}
	for range All(11, 4, clause.Full()) {
		t.Error("from behind to")
	}
	for range All(0, 99) {
		t.Error("no clauses")
	}
}

func TestNextLastCount(t *testing.T) { // 14.2, 14.3
	if n := Count(clause.Full()); n != 146097 {
		t.Errorf("days of Full: %d", n)
	}
	if n := Count(leapDays); n != 97 {
		t.Errorf("leap days: %d", n)
	}
	if Count() != 0 || Count(never, broken) != 0 || Count(mondays, leapDays) != 99 {
		t.Error("Count")
	}
	want := 0
	var all []int
	for s := range All(0, api.Days-1, leapDays, mondays) {
		all = append(all, s.Day)
	}
	for n := int64(math.MinInt64); ; want++ {
		s, m, ok := Next(n, leapDays, mondays)
		if !ok {
			if want != len(all) || s != (api.Shape{}) || m != 0 {
				t.Errorf("Next ends behind %d days", want)
			}
			break
		}
		if s.Day != all[want] || m == 0 {
			t.Fatalf("Next(%d) = %d, want %d", n, s.Day, all[want])
		}
		n = int64(s.Day) + 1
	}
	if n, ok := Last(leapDays, mondays); int(n) != all[len(all)-1] || !ok {
		t.Errorf("Last: %d", n)
	}
	if n, ok := Last(mondays); n != 11 || !ok {
		t.Errorf("Last of the Mondays: %d", n)
	}
	five := with(func(c *api.Clause) { c.From, c.Until = 5*86400+3, 5*86400+9 })
	first := with(func(c *api.Clause) { c.Dom, c.From, c.Until = 1<<1, 0, 20*86400 })
	for n, c := range map[int64]api.Clause{5: five, 0: first} {
		last, ok := Last(c)
		s, _, some := Next(0, c)
		if last != n || !ok || int64(s.Day) != n || !some || Count(c) != 1 {
			t.Errorf("day %d alone: %d, %d, %d", n, last, s.Day, Count(c))
		}
	}
	if s, _, ok := Next(api.Days-1, clause.Full()); s.Day != api.Days-1 || !ok {
		t.Error("Next of the last day")
	}
	if n, ok := Last(never, broken); n != 0 || ok {
		t.Error("Last of none")
	}
	if n, ok := Last(); n != 0 || ok {
		t.Error("Last of no clauses")
	}
	if _, _, ok := Next(math.MaxInt64, clause.Full()); ok {
		t.Error("behind all")
	}
}
