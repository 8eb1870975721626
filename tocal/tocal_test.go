package tocal

import (
	"math"
	"math/rand"
	"slices"
	"testing"

	"feria/api"
	"feria/cal"
	"feria/callow"
	"feria/calread"
	"feria/calshow"
	"feria/cast"
	"feria/ir"
	"feria/meet"
)

func lower(t *testing.T, s string) []api.Clause {
	t.Helper()
	c, _, e := calread.Read(s)
	if e != api.OK {
		t.Fatalf("%q: %v", s, e)
	}
	set, _ := callow.Lower(c)
	return set
}

func text(c api.Cal) string {
	s, _ := calshow.Show(c)
	return s
}

func TestEvent(t *testing.T) { // 37.1
	for _, c := range []struct{ s, ahead, back string }{
		{"monthly", "*-*-01 00:00:00", "*-*~28..31 00:00:00"},
		{"*-02~01", "*-02-28..29 00:00:00", "*-02~01 00:00:00"},
		{"Mon..Sun 1..12-1..31 0..23:0..59:0", "*-*-* *:*:00", "*-*~01..31 *:*:00"},
		{"Mon,Wed,Thu,Sun 1970..2369/2-*-* 0:0:0", "Mon,Wed..Thu,Sun 1970..2368/2-*-* 00:00:00", "Mon,Wed..Thu,Sun 1970..2368/2-*~01..31 00:00:00"},
		{"2000,2001,2005-02-1..29 1..3:0/15:5", "2000..2001,2005-02-* 01..03:00..45/15:05", "2000..2001,2005-02~01..29 01..03:00..45/15:05"},
		{"04,06-1..30", "*-04,06-* 00:00:00", "*-04,06~01..30 00:00:00"},
		{"2000-02-29", "2000-02-* 00:00:00", ""},
	} {
		f, _ := cast.Of(lower(t, c.s))
		if c.back == "" {
			if e, ok := Event(f, false); text(e) != "Tue 2000-02-29 00:00:00" || !ok {
				t.Errorf("Event of %q: %q, %v", c.s, text(e), ok)
			}
			continue
		}
		if e, ok := Event(f, false); text(e) != c.ahead || !ok {
			t.Errorf("Event of %q: %q, %v", c.s, text(e), ok)
		}
		if e, ok := Event(f, true); text(e) != c.back || !ok || !e.Back {
			t.Errorf("Event of %q, counted back: %q, %v", c.s, text(e), ok)
		}
	}
	for _, f := range []cast.Face{{}, {Even: true, Square: true, Second: 1, Minute: 1, Hour: 1, Month: 2, Dom: 2, End: 2, Week: 2, Years: [7]uint64{1}}, {Days: 1}, {Days: 1, Second: math.MaxUint64, Week: math.MaxUint64}} {
		for _, back := range []bool{false, true} {
			if e, ok := Event(f, back); ok || !cal.Same(e, api.Cal{}) {
				t.Errorf("Event of no face: %q", text(e))
			}
		}
	}
}

func TestRaise(t *testing.T) { // 37.2
	for s, want := range map[string]string{
		"monthly": "*-*-01 00:00:00", "*-02~01": "*-02~01 00:00:00", "*-12~1": "*-12-31 00:00:00", "*-02-30": "*-02-30 00:00:00", "*-04-31 5:5": "*-02-30 00:00:00", "Mon..Fri 9:30": "Mon..Fri *-*-* 09:30:00", "*-*~* *:*:*": "*-*-* *:*:*",
		"*-*~1/2": "*-*~01..31/2 00:00:00", // its days of the month are all, from the beginning
	} {
		c, e := Raise(lower(t, s))
		if text(c) != want || e != api.OK {
			t.Errorf("Raise of %q: %q, %v", s, text(c), e)
		}
	}
	if c, e := Raise(nil); text(c) != "*-02-30 00:00:00" || e != api.OK {
		t.Errorf("Raise of nothing: %q, %v", text(c), e)
	}
	for i, change := range []func(c *api.Clause){
		func(c *api.Clause) { c.From = 5 }, func(c *api.Clause) { c.Unit, c.Step = api.Week, 2 }, func(c *api.Clause) { c.Dom, c.Week, c.Or = 1<<13, 1<<5, true }, func(c *api.Clause) { c.Dom, c.End = 1<<5|1<<30, 1<<1|1<<27 }, func(c *api.Clause) { c.Unit, c.Step = api.Second, 7 },
	} {
		set := ir.Whole()
		change(&set[0])
		if c, e := Raise(set); !cal.Same(c, api.Cal{}) || e != api.ErrNone {
			t.Errorf("set %d: %q, %v", i, text(c), e)
		}
	}
	for _, c := range []struct {
		cs []api.Clause
		e  api.Errno
	}{{[]api.Clause{{}}, api.ErrArg}, {slices.Repeat(ir.Whole(), 9), api.ErrLong}} {
		if x, e := Raise(c.cs); !cal.Same(x, api.Cal{}) || e != c.e {
			t.Errorf("Raise: %v, want %v", e, c.e)
		}
	}
}

// some is an event by chance that may be.
func some(r *rand.Rand) api.Cal {
	list := func(f int) []api.Item {
		lo, hi := cal.Bounds(f)
		if r.Intn(3) == 0 {
			if f == 0 {
				return nil
			}
			return []api.Item{{Kind: api.Star, Step: 1}}
		}
		var its []api.Item
		for range 1 + r.Intn(3)*r.Intn(4) {
			a, b := lo+r.Intn(hi-lo+1), lo+r.Intn(hi-lo+1)
			it := []api.Item{{Kind: api.One, From: a}, {Kind: api.Range, From: min(a, b), To: max(a, b), Step: 1}, {Kind: api.Range, From: min(a, b), To: max(a, b), Step: 1 + r.Intn(3)}, {Kind: api.Rest, From: a, Step: 1 + r.Intn(3)}}
			its = append(its, it[r.Intn(2+2*min(f, 1))])
		}
		return its
	}
	return api.Cal{Week: list(0), Year: list(1), Month: list(2), Day: list(3), Back: r.Intn(2) == 0, Hour: list(4), Minute: list(5), Second: list(6)}
}

func TestWhatFollows(t *testing.T) { // 37.3
	r := rand.New(rand.NewSource(37))
	for range 60 {
		x := some(r)
		set, e := callow.Lower(x)
		if e != api.OK {
			t.Fatalf("%+v: %v", x, e)
		}
		c, e := Raise(set)
		if _, wrong := cal.Check(c); e != api.OK || wrong != api.OK {
			t.Fatalf("Raise of %q: %v, %v", text(x), e, wrong)
		}
		means, _ := callow.Lower(c)
		if v, _ := meet.Equal(means, set); !v.Yes {
			t.Fatalf("Raise of %q: %q: %+v", text(x), text(c), v)
		}
		early, late := set[0], set[0]
		early.Until, late.From = 5e9, 5e9+1
		if again, e := Raise([]api.Clause{late, early}); e != api.OK || !cal.Same(again, c) {
			t.Fatalf("Raise of %q: %q, and again: %q", text(x), text(c), text(again))
		}
	}
}
