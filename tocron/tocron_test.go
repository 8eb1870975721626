package tocron

import (
	"math"
	"math/rand"
	"slices"
	"testing"

	"feria/api"
	"feria/cast"
	"feria/cron"
	"feria/cronlow"
	"feria/cronread"
	"feria/cronshow"
	"feria/ir"
	"feria/mask"
	"feria/meet"
)

func lower(t *testing.T, s string) []api.Clause {
	t.Helper()
	c, _, e := cronread.Read(s)
	if e != api.OK {
		t.Fatalf("%q: %v", s, e)
	}
	set, _ := cronlow.Lower(c)
	return set
}

func text(c api.Cron) string {
	s, _ := cronshow.Show(c)
	return s
}

func TestBoth(t *testing.T) { // 36.1
	for s, want := range map[string]string{
		"0-59 */1 1-31 1-12 0-7": "* * * * *",
		"0 9 * * 1-5":            "0 9 * * 1-5",
		"*/15 9,10,11 * 1,2 7":   "0-45/15 9-11 * 1-2 0",
		"0 0 1,2,5 * *":          "0 0 1-2,5 * *",
		"0 0 1-29 2 *":           "0 0 * 2 *",
		"0 0 1-28 2 *":           "0 0 1-28 2 *",
		"0 0 1-30 4,6 *":         "0 0 * 4,6 *",
		"0 0 */2 * 5":            "0 0 */31,3-31/2 * 5",
		"0 0 */31 * 5":           "0 0 */31 * 5",
		"0 0 13,14 * */2":        "0 0 13-14 * */8,2-6/2",
		"0 0 13,14 * */8":        "0 0 13-14 * */8",
		"0 0 */31,13 * */2":      "0 0 */31,13 * 0-6/2",
		"0 0 * * 0,2-6":          "0 0 * * 0,2-6", "0 0 * * 1-6": "0 0 * * 1-6", "0 0 2-31 * *": "0 0 2-31 * *", "0 0 1-30 * *": "0 0 1-30 * *",
		"5 5 30,31 2 5": "5 5 * 2 5",
	} {
		f, _ := cast.Of(lower(t, s))
		c, ok := Both(f)
		if text(c) != want || !ok {
			t.Errorf("Both of %q: %q, %v", s, text(c), ok)
		}
	}
	set := lower(t, "0 0 13 * *")
	set[0].Week = mask.Of(5, 6)
	f, _ := cast.Of(set)
	if c, ok := Both(f); ok || !cron.Same(c, api.Cron{}) {
		t.Errorf("neither 1 nor 0: %q", text(c))
	}
	for _, f := range []cast.Face{{}, {Even: true, Square: true}, {Minute: 1, Hour: 1, Month: 1, Dom: 1, Week: 1, Days: 1}, {Minute: math.MaxUint64, Hour: math.MaxUint64, Month: math.MaxUint64, Dom: math.MaxUint64, Week: math.MaxUint64, Days: 5}} {
		if c, ok := Both(f); ok || !cron.Same(c, api.Cron{}) {
			t.Errorf("Both of no face: %q", text(c))
		}
	}
}

func TestEither(t *testing.T) { // 36.1
	for s, want := range map[string]string{
		"0 0 13 * 5": "0 0 13 * 5", "30 4 1,15 * 0,3-5": "30 4 1,15 * 0,3-5", "0 0 29,30 2 1": "0 0 29 2 1", "0 0 1-31 * 3": "0 0 1-31 * 0-6", "0 0 13 * *": "", "0 0 * * 5": "", "0 0 30 2 5": "", "0 0 30 2 *": "",
	} {
		c, ok := Either(lower(t, s))
		if text(c) != want || ok != (want != "") {
			t.Errorf("Either of %q: %q, %v", s, text(c), ok)
		}
	}
	for _, cs := range [][]api.Clause{nil, {{}}, slices.Repeat(ir.Whole(), 9)} {
		if c, ok := Either(cs); ok || !cron.Same(c, api.Cron{}) {
			t.Errorf("Either of no set: %q", text(c))
		}
	}
}

func TestRaise(t *testing.T) { // 36.2
	for s, want := range map[string]string{
		"0-59 0-23 * * *": "* * * * *", "0 0 13 * 5": "0 0 13 * 5", "0 0 */2 * 5": "0 0 */31,3-31/2 * 5", "0 0 30 2 *": "0 0 30 2 *", "5 5 31 4,6 *": "0 0 30 2 *", "0 0 1-31 * 3": "0 0 * * *", "0 0 3 * 0-7": "0 0 * * *", "0 0 30 2 5": "0 0 * 2 5",
	} {
		c, e := Raise(lower(t, s))
		if text(c) != want || e != api.OK {
			t.Errorf("Raise of %q: %q, %v", s, text(c), e)
		}
	}
	if c, e := Raise(nil); text(c) != "0 0 30 2 *" || e != api.OK {
		t.Errorf("Raise of nothing: %q, %v", text(c), e)
	}
	thirteenth := func(c *api.Clause) { c.Dom, c.Week = 1<<13, 1<<5 }
	for i, change := range []func(c *api.Clause){
		func(c *api.Clause) { c.Second = 2 }, func(c *api.Clause) { c.From = 86400 }, func(c *api.Clause) { c.Years[0] = 1 }, func(c *api.Clause) { c.Unit, c.Step = api.Day, 2 }, thirteenth, func(c *api.Clause) { c.End = 2 },
	} {
		set := lower(t, "0 0 * * *")
		change(&set[0])
		if c, e := Raise(set); !cron.Same(c, api.Cron{}) || e != api.ErrNone {
			t.Errorf("set %d: %q, %v", i, text(c), e)
		}
	}
	for _, c := range []struct {
		cs []api.Clause
		e  api.Errno
	}{{[]api.Clause{{}}, api.ErrArg}, {slices.Repeat(ir.Whole(), 9), api.ErrLong}, {ir.Whole(), api.ErrNone}} {
		if x, e := Raise(c.cs); !cron.Same(x, api.Cron{}) || e != c.e {
			t.Errorf("Raise: %v, want %v", e, c.e)
		}
	}
}

// some is a line's text by chance.
func some(r *rand.Rand) string {
	n := func(lo, hi int) string { return itoa(lo + r.Intn(hi-lo+1)) }
	pick := func(l ...string) string { return l[r.Intn(len(l))] }
	return pick("0", "*", "*/20", n(0, 59)+","+n(0, 59)) + " " + pick("0", "*", n(0, 23)) + " " +
		pick("*", n(1, 31), n(1, 31)+","+n(1, 31), "1-31", "*/"+n(1, 31), "*/31,"+n(1, 31), "28-31") + " " +
		pick("*", n(1, 12), "2", "2,4", n(1, 12)+","+n(1, 12)) + " " + pick("*", n(0, 7), "1-5", "0-6", "*/"+n(1, 8), "*/8,"+n(1, 7), n(0, 7)+","+n(0, 7))
}

func itoa(n int) string { return cronshow.Item(api.Item{Kind: api.One, From: n}) }

func TestWhatFollows(t *testing.T) { // 36.3
	r := rand.New(rand.NewSource(36))
	for range 120 {
		s := some(r)
		set := lower(t, s)
		c, e := Raise(set)
		if _, wrong := cron.Check(c); e != api.OK || wrong != api.OK {
			t.Fatalf("Raise of %q: %v, %v", s, e, wrong)
		}
		means, _ := cronlow.Lower(c)
		if v, _ := meet.Equal(means, set); !v.Yes {
			t.Fatalf("Raise of %q: %q: %+v", s, text(c), v)
		}
		other := means
		if r.Intn(2) == 0 { // the same set in two parts
			early, late := set[0], set[0]
			early.Until, late.From = 5e9, 5e9+1
			other = []api.Clause{late, early}
		}
		if again, e := Raise(other); e != api.OK || !cron.Same(again, c) {
			t.Fatalf("Raise of %q: %q, and again: %q", s, text(c), text(again))
		}
	}
}
