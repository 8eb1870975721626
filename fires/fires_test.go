package fires

import (
	"math"
	"slices"
	"strings"
	"testing"

	"feria/api"
	"feria/plan"
	"feria/seek"
)

func read(t *testing.T, s string) api.Plan {
	t.Helper()
	p, e := plan.Guess(s)
	if e != api.OK {
		t.Fatalf("%q: %v", s, e)
	}
	return p
}

var (
	lack  = api.Plan{Lang: api.LangCron}
	large = api.Plan{Lang: api.LangRule, Rule: api.Rule{Freq: api.Day, Interval: 1e15, Until: -1}}
	none  = api.Plan{Lang: 3}
)

func TestAfterEveryLines(t *testing.T) { // 43.1
	p := read(t, "0 9 * * 1-5")
	set, _ := plan.Lower(p)
	want, _ := seek.Some(set, 32400, 9)
	if ts, e := After(p, 32400, 9); !slices.Equal(ts, want) || len(ts) != 9 || e != api.OK {
		t.Errorf("After: %v, %v", ts, e)
	}
	if ts, e := After(read(t, "daily"), api.End-86401, 9); !slices.Equal(ts, []int64{api.End - 86400}) || e != api.OK {
		t.Errorf("After: %v, %v", ts, e)
	}
	if s, e := Lines(read(t, "daily"), -1, 2); s != "1970-01-01 00:00:00\n1970-01-02 00:00:00\n" || e != api.OK {
		t.Errorf("the example: %q, %v", s, e)
	}
	if s, e := Lines(read(t, "*-02-30"), -1, 2); s != "" || e != api.OK {
		t.Errorf("Lines of nothing: %q, %v", s, e)
	}
	if s, e := Lines(read(t, "*-*-* *:*:*"), -1, 10000); strings.Count(s, "\n") != 10000 || e != api.OK {
		t.Errorf("many lines: %v", e)
	}
	seq, e := Every(p, 0, 9*86400)
	if e != api.OK {
		t.Fatal(e)
	}
	for range 2 {
		if got := slices.Collect(seq); !slices.Equal(got, slices.Collect(seek.All(set, 0, 9*86400))) || len(got) != 7 {
			t.Errorf("Every: %v", got)
		}
	}
	for _, c := range []struct {
		p    api.Plan
		most int
		e    api.Errno
	}{{p, 0, api.ErrArg}, {p, 10001, api.ErrArg}, {p, -1, api.ErrArg}, {lack, 0, api.ErrLack}, {large, 5, api.ErrLarge}, {none, 5, api.ErrArg}} {
		if ts, e := After(c.p, 0, c.most); ts != nil || e != c.e {
			t.Errorf("After: %v, want %v", e, c.e)
		}
		if s, e := Lines(c.p, 0, c.most); s != "" || e != c.e {
			t.Errorf("Lines: %v, want %v", e, c.e)
		}
	}
	for _, c := range []struct {
		p api.Plan
		e api.Errno
	}{{lack, api.ErrLack}, {large, api.ErrLarge}, {none, api.ErrArg}} {
		if seq, e := Every(c.p, 0, 9); seq != nil || e != c.e {
			t.Errorf("Every: %v", e)
		}
	}
}

func TestGaps(t *testing.T) { // 43.2
	for _, c := range []struct {
		p               api.Plan
		from, until     int64
		least, greatest int64
		e               api.Errno
	}{
		{read(t, "daily"), 0, 10 * 86400, 86400, 86400, api.OK}, {read(t, "0 9,17 * * 1-5"), 0, 30 * 86400, 8 * 3600, 64 * 3600, api.OK}, {read(t, "*-*-* *:*:*"), 5, 6, 1, 1, api.OK},
		{read(t, "*-*-* *:*:*"), 0, 99999, 1, 1, api.OK}, {read(t, "*-*-* *:*:*"), 0, 100000, 0, 0, api.ErrLong}, {read(t, "*-*-* *:*:*"), math.MinInt64, math.MaxInt64, 0, 0, api.ErrLong},
		{read(t, "daily"), 1, 86400, 0, 0, api.ErrNone}, {read(t, "daily"), 0, 86399, 0, 0, api.ErrNone}, {read(t, "daily"), 0, 86400, 86400, 86400, api.OK}, {read(t, "daily"), 9, 8, 0, 0, api.ErrNone}, {read(t, "*-02-30"), 0, api.End, 0, 0, api.ErrNone},
		{read(t, "*-02-29"), math.MinInt64, math.MaxInt64, 1461 * 86400, 2921 * 86400, api.OK}, {lack, 0, 9, 0, 0, api.ErrLack}, {large, 9, 0, 0, 0, api.ErrLarge}, {none, 0, 9, 0, 0, api.ErrArg},
	} {
		if a, b, e := Gaps(c.p, c.from, c.until); a != c.least || b != c.greatest || e != c.e {
			t.Errorf("Gaps(%+v, %d, %d) = %d, %d, %v", c.p, c.from, c.until, a, b, e)
		}
	}
}

func TestMonth(t *testing.T) { // 43.3
	days, e := Month(read(t, "0,30 9-11 * * 4"), 1970, 1)
	if e != api.OK {
		t.Fatal(e)
	}
	for i, n := range days {
		if want := int64(0); i%7 == 0 {
			want = 6
			if n != want {
				t.Errorf("day %d: %d", i+1, n)
			}
		} else if n != want {
			t.Errorf("day %d: %d", i+1, n)
		}
	}
	for _, c := range []struct{ year, month, days int }{{1970, 1, 31}, {1970, 2, 28}, {2000, 2, 29}, {2369, 4, 30}, {2369, 12, 31}} {
		days, e := Month(read(t, "*-*-* *:*:*"), c.year, c.month)
		for i, n := range days {
			if want := int64(86400); i < c.days && n != want || i >= c.days && n != 0 {
				t.Errorf("%d-%d-%d: %d", c.year, c.month, i+1, n)
			}
		}
		if e != api.OK {
			t.Error(e)
		}
	}
	for _, c := range []struct {
		p           api.Plan
		year, month int
		e           api.Errno
	}{
		{read(t, "daily"), 1969, 12, api.ErrRange}, {read(t, "daily"), 2370, 1, api.ErrRange}, {read(t, "daily"), 1970, 0, api.ErrRange}, {read(t, "daily"), 1970, 13, api.ErrRange}, {read(t, "daily"), math.MinInt, math.MaxInt, api.ErrRange},
		{lack, 1, 1, api.ErrLack}, {large, 1970, 1, api.ErrLarge}, {none, 1970, 1, api.ErrArg},
	} {
		if days, e := Month(c.p, c.year, c.month); days != [31]int64{} || e != c.e {
			t.Errorf("Month(%d, %d): %v", c.year, c.month, e)
		}
	}
}
