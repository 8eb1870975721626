package roll

import (
	"math"
	"math/rand"
	"slices"
	"testing"

	"feria/api"
	"feria/clause"
	"feria/disc"
	"feria/ir"
	"feria/unit"
	"feria/week"
)

// with is Full, changed.
func with(change func(c *api.Clause)) api.Clause {
	c := clause.Full()
	change(&c)
	return c
}

func start(t *testing.T, cs ...api.Clause) *Roll {
	t.Helper()
	r, e := New(cs)
	if e != api.OK || r == nil {
		t.Fatalf("New: %v", e)
	}
	return r
}

// some is a set by chance.
func some(r *rand.Rand) []api.Clause {
	var cs []api.Clause
	for range r.Intn(4) {
		cs = append(cs, with(func(c *api.Clause) {
			c.Second, c.Minute, c.Hour = 1<<r.Intn(60), r.Uint64()&c.Minute, r.Uint64()&c.Hour
			c.Week &= r.Uint64() | r.Uint64()
			c.Dom &= r.Uint64() | r.Uint64()
			c.Or = r.Intn(4) == 0
			c.Unit, c.Step, c.Anchor = r.Intn(api.Units), 1+r.Int63n(9), r.Int63n(api.End)
			c.From, c.Until = r.Int63n(50*86400), 50*86400+r.Int63n(50*86400)
		}))
	}
	return cs
}

func TestDiscs(t *testing.T) { // 18.1, 18.4
	r := rand.New(rand.NewSource(18))
	for range 40 {
		cs := some(r)
		x := start(t, cs...)
		if !slices.Equal(x.Clauses(), cs) {
			t.Fatal("Clauses")
		}
		for range 20 {
			n := r.Int63n(101)
			s, _ := week.Shape(n)
			d := x.Day(n)
			if !disc.Equal(d, x.At(s)) {
				t.Fatal("Day and At")
			}
			for range 20 {
				sec := r.Intn(86400)
				if e, ok := d.Next(sec); ok && r.Intn(2) == 0 {
					sec = e
				}
				if d.Has(sec) != ir.Has(cs, n*86400+int64(sec)) {
					t.Fatalf("day %d, second %d", n, sec)
				}
			}
		}
		if x.Made() > 800 {
			t.Fatal("more discs than days")
		}
	}
	x := start(t, ir.Whole()...)
	for _, n := range []int64{-1, api.Days, math.MinInt64, math.MaxInt64} {
		if x.Day(n) != nil {
			t.Errorf("Day(%d)", n)
		}
	}
	if x.Day(0).Len() != 86400 || x.Day(api.Days-1).Len() != 86400 || start(t).Day(0) != nil {
		t.Error("the days of Whole")
	}
	x.Clauses()[0].Step = 9
	if x.Clauses()[0].Step != 1 {
		t.Error("Clauses is new memory")
	}
}

func TestNewWrong(t *testing.T) { // 18.1
	for _, c := range []struct {
		cs []api.Clause
		e  api.Errno
	}{{slices.Repeat(ir.Whole(), 9), api.ErrLong}, {[]api.Clause{{}}, api.ErrArg}} {
		if r, e := New(c.cs); r != nil || e != c.e {
			t.Errorf("New: %v, want %v", e, c.e)
		}
	}
	var r *Roll
	if r.Clauses() != nil || r.Day(0) != nil || r.At(api.Shape{}) != nil || r.Made() != 0 {
		t.Error("a nil roll")
	}
	for range r.All(0, 99) {
		t.Error("a day of a nil roll")
	}
	for range r.Back(0, 99) {
		t.Error("a day of a nil roll")
	}
}

func TestAllBack(t *testing.T) { // 18.2
	cs := []api.Clause{
		with(func(c *api.Clause) { c.Week, c.Until = 1<<1|1<<3, 30*86400 }),
		with(func(c *api.Clause) { c.Dom, c.From, c.Until = 1<<13, 100, 90*86400 }),
		with(func(c *api.Clause) { c.Week, c.Hour = 1<<2, 0 }),
	}
	x := start(t, cs...)
	var want []int
	for n := 5; n <= 60; n++ {
		if x.Day(int64(n)).Len() > 0 {
			want = append(want, n)
		}
	}
	collect := func(back bool) []int {
		var got []int
		seq := x.All(5, 60)
		if back {
			seq = x.Back(5, 60)
		}
		for s, d := range seq {
			if d != x.Day(int64(s.Day)) {
				t.Errorf("the disc of day %d", s.Day)
			}
			got = append(got, s.Day)
		}
		return got
	}
	if got := collect(false); !slices.Equal(got, want) {
		t.Errorf("All: %v, want %v", got, want)
	}
	slices.Reverse(want)
	if got := collect(true); !slices.Equal(got, want) {
		t.Errorf("Back: %v, want %v", got, want)
	}
	greatest := 0
	for s := range x.All(math.MinInt64, math.MaxInt64) {
		greatest = s.Day
	}
	for s := range x.Back(math.MinInt64, math.MaxInt64) {
		if s.Day != greatest || greatest < 60 {
			t.Errorf("the last day: %d, want %d", s.Day, greatest)
		}
		break
	}
	for _, n := range []int64{4, 6, 0} {
		days := 0
		for s := range x.Back(n, n) {
			days += 1 + s.Day
		}
		for s := range x.All(n, n) {
			days -= 1 + s.Day
		}
		if days != 0 {
			t.Errorf("day %d alone", n)
		}
	}
	for range x.All(60, 5) {
		t.Error("a day from behind to")
	}
	n := 0
	for range x.All(math.MinInt64, math.MaxInt64) {
		if n++; n == 3 {
			break
		}
	}
	if n != 3 {
		t.Error("left")
	}
}

func TestMade(t *testing.T) { // 18.3
	x := start(t, ir.Whole()...)
	n := 0
	for range x.All(0, 9) {
		n++
	}
	if n != 10 || x.Made() != 1 {
		t.Errorf("the example: %d days, %d discs", n, x.Made())
	}
	x.Day(5)
	x.Day(-5)
	if x.Made() != 1 {
		t.Error("a state that is known")
	}
	parts := start(t, with(func(c *api.Clause) { c.From, c.Until, c.Week = 5, 86400*3+5, 1<<4|1<<5|1<<7 }))
	for range parts.All(0, 99) {
	}
	if parts.Made() != 3 { // the first day, a whole one, the last one
		t.Errorf("partial days: %d", parts.Made())
	}
	empty := start(t, with(func(c *api.Clause) { c.Hour = 0 }))
	for range empty.All(0, 99) {
		t.Error("a day without seconds")
	}
	if empty.Made() != 1 || empty.Day(3).Len() != 0 || empty.Day(3) == nil || empty.Made() != 1 {
		t.Error("a disc that is empty is made, too, and once")
	}
	two := start(t, with(func(c *api.Clause) { c.Week = 1 << 1 }), with(func(c *api.Clause) { c.Dom = 1 << 13 }))
	for range two.Back(0, api.Days) {
	}
	if two.Made() != 3 {
		t.Errorf("of two clauses: %d", two.Made())
	}
}

func TestForgotten(t *testing.T) { // 18.3, and the section Words
	step := func(n int64) api.Clause {
		return with(func(c *api.Clause) { c.Unit, c.Step, c.Hour, c.Minute = api.Second, n, 1, 1 })
	}
	for _, c := range []struct {
		step, days int64
		want       int
	}{
		{211, 1000, 211}, // 210 phases beside 0
		{257, 257, 257},  // 256 beside 0: all stay
		{257, 514, 257},  // all known the second time
		{263, 263, 263},  // 262 beside 0: forgotten once
		{263, 526, 525},  // each phase but 0 again
		{101, 5000, 101},
	} {
		x := start(t, step(c.step))
		for n := range c.days {
			x.Day(n)
		}
		if x.Made() != c.want {
			t.Errorf("step %d, %d days: %d, want %d", c.step, c.days, x.Made(), c.want)
		}
	}
}

func TestWholeStaysKnown(t *testing.T) { // 18.3, and the section Words
	x := start(t, with(func(c *api.Clause) { c.Unit, c.Step, c.From, c.Hour, c.Minute = api.Second, 257, 5, 1, 1 }))
	for n := range int64(514) {
		x.Day(n)
	}
	if x.Made() != 513 { // the first day is a state by itself: one more than 256 beside phase 0
		t.Errorf("257 states that don't stay: %d", x.Made())
	}
	y := start(t, with(func(c *api.Clause) { c.Unit, c.Step, c.Hour, c.Minute = api.Second, 263, 1, 1 }))
	for n := range int64(263) {
		y.Day(n)
	}
	y.Day(263)
	if y.Made() != 263 {
		t.Errorf("phase 0 stays known: %d", y.Made())
	}
	for n := range int64(100) {
		if unit.Phase(api.Second, 263, 0, n) == 1 {
			y.Day(n)
			if y.Made() != 264 {
				t.Errorf("phase 1 was forgotten: %d", y.Made())
			}
		}
	}
}

func TestSteps(t *testing.T) { // 18.3
	cs := []api.Clause{
		clause.Full(), with(func(c *api.Clause) { c.Step = 2 }), with(func(c *api.Clause) { c.Unit, c.Step = api.Hour, 2 }), with(func(c *api.Clause) { c.Unit, c.Step = api.Day, 2 }),
		with(func(c *api.Clause) { c.Unit, c.Step = api.Minute, 1 }), with(func(c *api.Clause) { c.Step, c.Anchor = 2, -1 }), {},
	}
	if Steps(cs) != 2 || Steps(nil) != 0 {
		t.Errorf("Steps: %d", Steps(cs))
	}
}
