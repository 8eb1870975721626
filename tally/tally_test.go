package tally

import (
	"math"
	"math/rand"
	"slices"
	"testing"

	"feria/api"
	"feria/clause"
	"feria/ir"
	"feria/seek"
)

// with is Full, changed.
func with(change func(c *api.Clause)) api.Clause {
	c := clause.Full()
	change(&c)
	return c
}

var (
	nine  = with(func(c *api.Clause) { c.Hour, c.Minute, c.Second, c.Week = 1<<9|1<<23, 1, 1|1<<30, 1<<1|1<<5 })
	short = with(func(c *api.Clause) { c.Unit, c.Step, c.From, c.Until = api.Minute, 7, 100000, 900000 })
	never = with(func(c *api.Clause) { c.Hour = 0 })
	bad   = []api.Clause{{}}
	long  = slices.Repeat(ir.Whole(), 9)
)

func TestCount(t *testing.T) { // 20.1
	if n, e := Count(ir.Whole(), 5, 9); n != 5 || e != api.OK {
		t.Error("the example")
	}
	if n, e := Count(ir.Whole(), math.MinInt64, math.MaxInt64); n != api.End || e != api.OK {
		t.Errorf("the window: %d, %v", n, e)
	}
	r := rand.New(rand.NewSource(20))
	cs := []api.Clause{nine, short}
	all := slices.Collect(seek.All(cs, 0, 30*86400))
	for range 60 {
		from, until := r.Int63n(30*86400)-5, r.Int63n(30*86400)-5
		var want int64
		for _, x := range all {
			if x >= from && x <= until {
				want++
			}
		}
		if n, e := Count(cs, from, until); n != want || e != api.OK {
			t.Fatalf("Count(%d, %d) = %d, %v; want %d", from, until, n, e, want)
		}
	}
	for _, c := range []struct {
		cs          []api.Clause
		from, until int64
		e           api.Errno
	}{{nil, 0, api.End, api.OK}, {cs, 9, 8, api.OK}, {cs, math.MaxInt64, math.MinInt64, api.OK}, {cs, -9, -1, api.OK}, {cs, api.End, math.MaxInt64, api.OK}, {bad, 0, 9, api.ErrArg}, {long, 9, 0, api.ErrLong}} {
		if n, e := Count(c.cs, c.from, c.until); n != 0 || e != c.e {
			t.Errorf("%d, %v", n, e)
		}
	}
}

func TestNth(t *testing.T) { // 20.2, 20.4
	cs := []api.Clause{short, nine}
	all := slices.Collect(seek.All(cs, 0, 12*86400))
	for i := 0; i < len(all); i += 37 {
		x, e := Nth(cs, int64(i)+1)
		if x != all[i] || e != api.OK {
			t.Fatalf("Nth(%d) = %d, %v; want %d", i+1, x, e, all[i])
		}
		if n, _ := Count(cs, 0, x); n != int64(i)+1 {
			t.Fatalf("up to the %d-th one: %d", i+1, n)
		}
	}
	for _, c := range []struct {
		cs []api.Clause
		n  int64
		x  int64
		e  api.Errno
	}{
		{ir.Whole(), 1, 0, api.OK}, {ir.Whole(), api.End, api.End - 1, api.OK}, {ir.Whole(), api.End + 1, 0, api.ErrNone}, {ir.Whole(), math.MaxInt64, 0, api.ErrNone},
		{ir.Whole(), 0, 0, api.ErrArg}, {ir.Whole(), math.MinInt64, 0, api.ErrArg}, {[]api.Clause{never}, 1, 0, api.ErrNone}, {long, 0, 0, api.ErrLong}, {bad, 1, 0, api.ErrArg},
	} {
		if x, e := Nth(c.cs, c.n); x != c.x || e != c.e {
			t.Errorf("Nth(%d) = %d, %v", c.n, x, e)
		}
	}
}

func TestYearsHours(t *testing.T) { // 20.3, 20.4
	cs := []api.Clause{nine, short}
	years, e := Years(cs)
	if len(years) != 400 || e != api.OK {
		t.Fatalf("Years: %d, %v", len(years), e)
	}
	hours, e := Hours(cs)
	if e != api.OK {
		t.Fatal("Hours")
	}
	var ofYears, ofHours int64
	for i, n := range years {
		ofYears += n
		if i > 0 && n != 4*104 && n != 4*105 && n != 4*106 {
			t.Errorf("year %d: %d", i, n)
		}
	}
	for _, n := range hours {
		ofHours += n
	}
	all, _ := Count(cs, 0, api.End)
	if ofYears != all || ofHours != all {
		t.Errorf("together: %d, %d, %d", ofYears, ofHours, all)
	}
	only, _ := Hours([]api.Clause{nine})
	for h, n := range only {
		if (n != 0) != (h == 9 || h == 23) {
			t.Errorf("hour %d: %d", h, n)
		}
	}
	for _, c := range []struct {
		cs []api.Clause
		e  api.Errno
	}{{bad, api.ErrArg}, {long, api.ErrLong}} {
		if l, e := Years(c.cs); l != nil || e != c.e {
			t.Errorf("Years: %v", e)
		}
		if l, e := Hours(c.cs); l != [24]int64{} || e != c.e {
			t.Errorf("Hours: %v", e)
		}
	}
	ofAll, _ := Years(ir.Whole())
	if ofAll[0] != 365*86400 || ofAll[2] != 366*86400 || ofAll[399] != 365*86400 {
		t.Errorf("Years of Whole: %d, %d, %d", ofAll[0], ofAll[2], ofAll[399])
	}
	perHour, _ := Hours(ir.Whole())
	for h, n := range perHour {
		if n != api.Days*3600 {
			t.Errorf("hour %d of Whole: %d", h, n)
		}
	}
	if l, e := Years(nil); len(l) != 400 || l[0] != 0 || e != api.OK {
		t.Error("Years of none")
	}
}
