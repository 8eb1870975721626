package pulse

import (
	"math"
	"math/rand"
	"slices"
	"testing"

	"feria/api"
	"feria/clause"
	"feria/ir"
	"feria/mask"
	"feria/num"
	"feria/seek"
	"feria/unit"
)

// with is Full, changed.
func with(change func(c *api.Clause)) api.Clause {
	c := clause.Full()
	change(&c)
	return c
}

// some is a set by chance, with few instants.
func some(r *rand.Rand) []api.Clause {
	var cs []api.Clause
	for range 1 + r.Intn(2) {
		cs = append(cs, with(func(c *api.Clause) {
			if r.Intn(2) == 0 {
				c.Second, c.Minute, c.Hour = 1, 1<<r.Intn(60)|1<<30, 1<<r.Intn(24)
			}
			if r.Intn(2) == 0 {
				c.Week = mask.Of(1 + r.Intn(7))
			}
			c.Unit, c.Step = r.Intn(api.Units), 1+r.Int63n(900)
			if c.Unit >= api.Day {
				c.Step = 1 + r.Int63n(5)
				c.Second, c.Minute = 1, 1
			}
			from := r.Int63n(api.Days-5000) * 86400
			c.From, c.Until = from, from+r.Int63n(1+r.Int63n(1000*86400))
		}))
	}
	return cs
}

func TestOfFits(t *testing.T) { // 23.1, 23.2, 23.3
	r := rand.New(rand.NewSource(23))
	for range 60 {
		cs := some(r)
		var want [7]int64
		var first []int64
		n := 0
		for x := range seek.All(cs, 0, api.End) {
			if n++; n > 40000 {
				break
			}
			for u := range api.Units {
				w, _ := unit.Which(u, x)
				if len(first) < api.Units {
					first = append(first, w)
				}
				want[u] = int64(num.Gcd(want[u], w-first[u]))
			}
		}
		if n > 40000 {
			continue
		}
		got, e := Of(cs)
		if got != want || e != api.OK {
			t.Fatalf("Of(%+v) = %v, %v; want %v", cs, got, e, want)
		}
		for u := range api.Units {
			for _, step := range []int64{1, 2, 7, want[u], 2 * want[u], 86400, math.MaxInt64} {
				ok, e := Fits(cs, u, step)
				if step < 1 {
					continue
				}
				if ok != (want[u]%step == 0) || e != api.OK {
					t.Fatalf("Fits(%d, %d): %v, %v", u, step, ok, e)
				}
			}
		}
	}
}

func TestCertain(t *testing.T) { // 23.1
	for i, c := range []struct {
		cs   []api.Clause
		want [7]int64
	}{
		{ir.Whole(), [7]int64{1, 1, 1, 1, 1, 1, 1}}, {nil, [7]int64{}},
		{[]api.Clause{with(func(c *api.Clause) { c.From, c.Until = 77, 77 })}, [7]int64{}},
		{[]api.Clause{with(func(c *api.Clause) { c.From, c.Until = 0, 59 })}, [7]int64{1, 0, 0, 0, 0, 0, 0}},
		{[]api.Clause{with(func(c *api.Clause) { c.Hour, c.Minute, c.Second, c.Week = 1<<9, 1, 1, 1<<3 })}, [7]int64{604800, 10080, 168, 7, 1, 1, 1}},
		{[]api.Clause{with(func(c *api.Clause) { c.Unit, c.Step, c.Minute, c.Second = api.Hour, 5, 1, 1 })}, [7]int64{18000, 300, 5, 1, 1, 1, 1}},
		{[]api.Clause{with(func(c *api.Clause) {
			c.Unit, c.Step, c.Dom, c.Month, c.Hour, c.Minute, c.Second = api.Year, 4, 1<<1, 1<<1, 1, 1, 1
		})}, [7]int64{86400, 1440, 24, 1, 1, 48, 4}},
		{[]api.Clause{with(func(c *api.Clause) { c.Unit, c.Step, c.Hour = api.Week, 2, 1<<9 })}, [7]int64{1, 1, 24, 1, 2, 1, 1}},
	} {
		if got, e := Of(c.cs); got != c.want || e != api.OK {
			t.Errorf("pulse %d: %v, want %v", i, got, c.want)
		}
	}
	if ok, e := Fits(nil, api.Day, 5); !ok || e != api.OK {
		t.Error("nothing fits all")
	}
	for _, c := range []struct {
		cs   []api.Clause
		unit int
		step int64
		e    api.Errno
	}{{ir.Whole(), -1, 1, api.ErrArg}, {ir.Whole(), 7, 1, api.ErrArg}, {ir.Whole(), 0, 0, api.ErrArg}, {ir.Whole(), 0, -5, api.ErrArg}, {slices.Repeat(ir.Whole(), 9), 9, 0, api.ErrLong}, {[]api.Clause{{}}, 0, 1, api.ErrArg}} {
		if ok, e := Fits(c.cs, c.unit, c.step); ok || e != c.e {
			t.Errorf("Fits(%d, %d): %v, %v", c.unit, c.step, ok, e)
		}
		if c.unit == 9 {
			if got, e := Of(c.cs); got != [7]int64{} || e != c.e {
				t.Errorf("Of: %v, %v", got, e)
			}
		}
	}
}

func TestSeconds(t *testing.T) { // 23.1
	for _, c := range []struct {
		l    []int
		want int64
	}{{nil, 0}, {[]int{5}, 0}, {[]int{5, 5}, 0}, {[]int{0, 30, 50}, 10}, {[]int{50, 0, 30}, 10}, {[]int{-1, 5, 86400, 12, math.MaxInt, math.MinInt}, 7}, {[]int{0, 86399}, 86399}, {[]int{-1, 86400}, 0}, {[]int{3, 4, 100}, 1}} {
		if got := Seconds(c.l); got != c.want {
			t.Errorf("Seconds(%v) = %d", c.l, got)
		}
	}
}
