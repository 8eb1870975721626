package differ

import (
	"math"
	"slices"
	"testing"

	"feria/api"
	"feria/ir"
	"feria/plan"
	"feria/tally"
	"feria/xlate"
)

const head = "DTSTART:19700105T090000Z\nRRULE:FREQ="

func read(t *testing.T, s string) api.Plan {
	t.Helper()
	p, e := plan.Guess(s)
	if e != api.OK {
		t.Fatalf("%q: %v", s, e)
	}
	return p
}

var (
	lack  = api.Plan{Lang: api.LangCron}
	large = api.Plan{Lang: api.LangRule, Rule: api.Rule{Freq: api.Day, Interval: 1e15, Until: -1}}
	none  = api.Plan{Lang: 3}
)

// pairs are plans that differ, or don't.
var pairs = [][2]string{
	{"0 0 * * *", "0 0 * * 1-6"}, {"0 0 * * 1-6", "0 0 * * *"}, {"0 0 * * *", "daily"}, {"*/5 * * * *", "*/7 * * * *"}, {head + "SECONDLY;INTERVAL=7", head + "SECONDLY;INTERVAL=11"}, {head + "WEEKLY;INTERVAL=2", head + "DAILY;INTERVAL=4"}, {"0 0 30 2 *", "0 9 * * *"}, {"Mon *-*-* *:*:*", "*-*-* 9:0:*"}, {"0 0 30 2 *", "*-02-30"},
}

func TestAllList(t *testing.T) { // 44.1
	for _, pr := range pairs {
		a, b := read(t, pr[0]), read(t, pr[1])
		x, _ := plan.Lower(a)
		y, _ := plan.Lower(b)
		var want []Difference
		for at := int64(3 * 86400); at <= 6*86400; at++ {
			if in, out := ir.Has(x, at), ir.Has(y, at); in != out {
				want = append(want, Difference{at, in})
			}
		}
		seq, e := All(a, b, 3*86400, 6*86400)
		if e != api.OK {
			t.Fatal(e)
		}
		for range 2 {
			if got := slices.Collect(seq); !slices.Equal(got, want) {
				t.Fatalf("All(%q, %q): %d, want %d", pr[0], pr[1], len(got), len(want))
			}
		}
		n := min(len(want), 7)
		if n == 7 {
			if got, e := List(a, b, 3*86400-1, n); !slices.Equal(got, want[:n]) || e != api.OK {
				t.Errorf("List(%q, %q): %v, %v", pr[0], pr[1], got, e)
			}
			if got, e := List(a, b, want[2].At, 3); !slices.Equal(got, want[3:6]) || e != api.OK {
				t.Errorf("List(%q, %q) behind one: %v, %v", pr[0], pr[1], got, e)
			}
		}
		for d := range seq {
			if d != want[0] {
				t.Error("the first one")
			}
			break
		}
	}
	every, never := read(t, "*-*-* *:*:*"), read(t, "*-02-30")
	seq, _ := All(every, never, api.End-2, math.MaxInt64)
	if got := slices.Collect(seq); !slices.Equal(got, []Difference{{api.End - 2, true}, {api.End - 1, true}}) {
		t.Errorf("the last ones: %v", got)
	}
	seq, _ = All(never, every, math.MinInt64, 1)
	if got := slices.Collect(seq); !slices.Equal(got, []Difference{{0, false}, {1, false}}) {
		t.Errorf("the first ones: %v", got)
	}
	seq, _ = All(never, every, math.MaxInt64, math.MinInt64)
	if got := slices.Collect(seq); len(got) != 0 {
		t.Errorf("from behind until: %v", got)
	}
	if got, e := List(every, never, math.MinInt64, 10000); len(got) != 10000 || got[9999].At != 9999 || e != api.OK {
		t.Errorf("10000: %d, %v", len(got), e)
	}
	if got, e := List(every, never, math.MaxInt64, 5); len(got) != 0 || e != api.OK {
		t.Errorf("behind all: %v, %v", got, e)
	}
}

func TestWrong(t *testing.T) { // 44.1, 44.2
	daily := read(t, "daily")
	for _, c := range []struct {
		a, b api.Plan
		most int
		e    api.Errno
	}{{lack, large, 0, api.ErrLack}, {large, lack, 5, api.ErrLarge}, {daily, lack, 0, api.ErrLack}, {daily, none, 5, api.ErrArg}, {daily, daily, 0, api.ErrArg}, {daily, daily, -1, api.ErrArg}, {daily, daily, 10001, api.ErrArg}} {
		if l, e := List(c.a, c.b, 0, c.most); l != nil || e != c.e {
			t.Errorf("List: %v, want %v", e, c.e)
		}
		if s, e := Lines(c.a, c.b, c.most); s != "" || e != c.e {
			t.Errorf("Lines: %v, want %v", e, c.e)
		}
		if plan.Check(c.a) == api.OK && plan.Check(c.b) == api.OK && c.e == api.ErrArg {
			continue
		}
		if seq, e := All(c.a, c.b, 0, 9); seq != nil || e != c.e {
			t.Errorf("All: %v, want %v", e, c.e)
		}
		if x, y, z, e := Count(c.a, c.b); x+y+z != 0 || e != c.e {
			t.Errorf("Count: %v, want %v", e, c.e)
		}
	}
}

func TestCountLines(t *testing.T) { // 44.2, 44.3
	for _, pr := range pairs {
		a, b := read(t, pr[0]), read(t, pr[1])
		x, _ := plan.Lower(a)
		y, _ := plan.Lower(b)
		ofA, _ := tally.Count(x, 0, api.End)
		ofB, _ := tally.Count(y, 0, api.End)
		first, second, both, e := Count(a, b)
		if e != api.OK || first+both != ofA || second+both != ofB {
			t.Errorf("Count(%q, %q) = %d, %d, %d, %v", pr[0], pr[1], first, second, both, e)
		}
		v, _ := xlate.Equal(a, b)
		l, _ := List(a, b, -1, 1)
		if v.Yes != (len(l) == 0) || v.Yes != (first+second == 0) || !v.Yes && (l[0].At != v.At || l[0].First != v.First) {
			t.Errorf("%q, %q: %+v, %v", pr[0], pr[1], v, l)
		}
	}
	a, b := read(t, "0 0 * * *"), read(t, "0 0 * * 1-6")
	if x, y, z, _ := Count(a, b); x != 20871 || y != 0 || z != 146097-20871 {
		t.Errorf("Count: %d, %d, %d", x, y, z)
	}
	if s, e := Lines(a, b, 2); s != "< 1970-01-04 00:00:00\n< 1970-01-11 00:00:00\n" || e != api.OK {
		t.Errorf("the example: %q, %v", s, e)
	}
	if s, e := Lines(b, read(t, "0 1 * * 0"), 3); s != "< 1970-01-01 00:00:00\n< 1970-01-02 00:00:00\n< 1970-01-03 00:00:00\n" || e != api.OK {
		t.Errorf("Lines: %q, %v", s, e)
	}
	if s, e := Lines(b, a, 1); s != "> 1970-01-04 00:00:00\n" || e != api.OK {
		t.Errorf("Lines: %q, %v", s, e)
	}
	if s, e := Lines(a, a, 9); s != "" || e != api.OK {
		t.Errorf("Lines of the same: %q, %v", s, e)
	}
}
