package bound

import (
	"math"
	"math/big"
	"math/rand"
	"slices"
	"testing"

	"feria/api"
	"feria/clause"
	"feria/ir"
	"feria/meet"
	"feria/unit"
)

// with is Full, changed.
func with(change func(c *api.Clause)) api.Clause {
	c := clause.Full()
	change(&c)
	return c
}

func step(u int, n int64) api.Clause { return with(func(c *api.Clause) { c.Unit, c.Step = u, n }) }

func TestPeriod(t *testing.T) { // 45.1
	for _, c := range []struct {
		c    api.Clause
		want int64
		ok   bool
	}{
		{clause.Full(), 1, true}, {step(api.Second, 7), 7, true}, {step(api.Second, 86400), 1, true}, {step(api.Second, 3*86400), 3, true}, {step(api.Minute, 7), 7, true}, {step(api.Minute, 90), 1, true}, {step(api.Minute, 1000), 25, true}, {step(api.Hour, 5), 5, true}, {step(api.Hour, 36), 3, true}, {step(api.Hour, 24), 1, true},
		{step(api.Day, 9), 9, true}, {step(api.Day, math.MaxInt64), math.MaxInt64, true}, {step(api.Day, 1), 1, true}, {step(api.Week, 1), 1, true}, {step(api.Week, 2), 14, true}, {step(api.Week, math.MaxInt64/7), math.MaxInt64 / 7 * 7, true}, {step(api.Week, math.MaxInt64/7+1), 0, false}, {step(api.Month, 5), 1, true}, {step(api.Year, math.MaxInt64), 1, true},
		{step(api.Day, 0), 0, false}, {api.Clause{}, 0, false}, {step(7, 2), 0, false}, {step(api.Second, math.MaxInt64), math.MaxInt64, true}, {step(api.Hour, 1<<60), 1 << 57, true},
	} {
		if n, ok := Period(c.c); n != c.want || ok != c.ok {
			t.Errorf("Period of %d, %d: %d, %v; want %d", c.c.Unit, c.c.Step, n, ok, c.want)
		}
	}
	r := rand.New(rand.NewSource(45))
	for range 2000 {
		c := step(r.Intn(3), 2+r.Int63n([]int64{100, 100000, math.MaxInt64 - 2}[r.Intn(3)]))
		if n, ok := Period(c); n != plain(c) || !ok {
			t.Fatalf("Period of %d, %d: %d, %v; want %d", c.Unit, c.Step, n, ok, plain(c))
		}
	}
}

// plain is the period of a step below a day, by its words, in numbers without bounds.
func plain(c api.Clause) int64 {
	seconds := new(big.Int).Mul(big.NewInt(c.Step), big.NewInt(unit.Size(c.Unit)))
	return new(big.Int).Div(seconds, new(big.Int).GCD(nil, nil, seconds, big.NewInt(86400))).Int64()
}

func TestLcm(t *testing.T) { // 45.1
	for i, c := range []struct {
		cs   []api.Clause
		want int64
		ok   bool
	}{
		{nil, 1, true}, {ir.Whole(), 1, true}, {[]api.Clause{step(api.Second, 7), step(api.Week, 2)}, 14, true}, {[]api.Clause{step(api.Day, 6), step(api.Day, 4), clause.Full()}, 12, true},
		{[]api.Clause{step(api.Day, 6), {}}, 0, false}, {[]api.Clause{step(api.Day, math.MaxInt64), step(api.Day, 2)}, 0, false}, {[]api.Clause{step(api.Day, math.MaxInt64), step(api.Day, math.MaxInt64)}, math.MaxInt64, true}, {[]api.Clause{step(api.Week, math.MaxInt64)}, 0, false},
	} {
		if n, ok := Lcm(c.cs); n != c.want || ok != c.ok {
			t.Errorf("Lcm %d: %d, %v", i, n, ok)
		}
	}
}

func TestDaysDiscs(t *testing.T) { // 45.2
	run := func(from, until int64) []api.Clause {
		return []api.Clause{with(func(c *api.Clause) { c.From, c.Until = from*86400+5, until*86400+5 })}
	}
	two := []api.Clause{step(api.Day, 2), clause.Full()}
	for i, c := range []struct {
		a, b        []api.Clause
		days, discs int
	}{
		{nil, nil, 0, 0}, {ir.Whole(), nil, 146097, 2 + 1 + 4}, {ir.Whole(), ir.Whole(), 146097, 2 + 2 + 8}, {two, ir.Whole(), 146097, 4 + 2 + 12}, {run(5, 9), nil, 5, 7}, {run(5, 6), nil, 2, 4}, {run(5, 9), run(50, 50), 46, 12}, {run(50, 51), run(5, 9), 47, 12},
		{[]api.Clause{step(api.Second, 7)}, nil, 146097, 2 * 146097}, {run(5, 9), []api.Clause{step(api.Hour, 7)}, 146097, 2 * 146097}, {[]api.Clause{with(func(c *api.Clause) { c.From, c.Until = 9, 5 })}, nil, 0, 0},
		{slices.Repeat(ir.Whole(), 8), slices.Repeat(ir.Whole(), 8), 146097, 512 + 64},
	} {
		if n, e := Days(c.a, c.b); n != c.days || e != api.OK {
			t.Errorf("Days %d: %d, %v; want %d", i, n, e, c.days)
		}
		if n, e := Discs(c.a, c.b); n != c.discs || e != api.OK {
			t.Errorf("Discs %d: %d, %v; want %d", i, n, e, c.discs)
		}
	}
	bad, long := []api.Clause{{}}, slices.Repeat(ir.Whole(), 9)
	for _, c := range []struct {
		a, b []api.Clause
		e    api.Errno
	}{{bad, long, api.ErrArg}, {long, bad, api.ErrLong}, {nil, bad, api.ErrArg}, {nil, long, api.ErrLong}} {
		if n, e := Days(c.a, c.b); n != 0 || e != c.e {
			t.Errorf("Days: %v, want %v", e, c.e)
		}
		if n, e := Discs(c.a, c.b); n != 0 || e != c.e {
			t.Errorf("Discs: %v, want %v", e, c.e)
		}
		if ok, e := Holds(c.a, c.b); ok || e != c.e {
			t.Errorf("Holds: %v, want %v", e, c.e)
		}
	}
}

// some is a set by chance.
func some(r *rand.Rand) []api.Clause {
	var cs []api.Clause
	for range r.Intn(4) {
		cs = append(cs, with(func(c *api.Clause) {
			c.Second, c.Minute = 1, 1
			c.Week &= r.Uint64() | r.Uint64()
			c.Dom &= r.Uint64() | r.Uint64()
			c.Or = r.Intn(3) == 0
			if r.Intn(2) == 0 {
				c.Unit, c.Step = r.Intn(api.Units), 1+r.Int63n(5)
			}
			if r.Intn(2) == 0 {
				c.From, c.Until = r.Int63n(99*86400), r.Int63n(999*86400)
			}
		}))
	}
	return cs
}

func TestHolds(t *testing.T) { // 45.3, 45.4
	r := rand.New(rand.NewSource(46))
	for range 80 {
		a, b := some(r), some(r)
		if r.Intn(2) == 0 {
			b = slices.Clone(a)
			slices.Reverse(b)
		}
		ok, e := Holds(a, b)
		days, made, _ := meet.Work(a, b)
		mostDays, _ := Days(a, b)
		mostDiscs, _ := Discs(a, b)
		if !ok || e != api.OK || days > mostDays || made > mostDiscs {
			t.Fatalf("Holds: %v, %v: %d of %d days, %d of %d discs: %+v, %+v", ok, e, days, mostDays, made, mostDiscs, a, b)
		}
	}
}
