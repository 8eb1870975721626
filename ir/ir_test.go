package ir

import (
	"math"
	"math/rand"
	"slices"
	"testing"

	"feria/api"
	"feria/clause"
	"feria/span"
)

// with is Full, changed.
func with(change func(c *api.Clause)) api.Clause {
	c := clause.Full()
	change(&c)
	return c
}

var (
	full    = clause.Full()
	broken  = with(func(c *api.Clause) { c.Step = 0 })
	mondays = with(func(c *api.Clause) { c.Week = 1 << 1 })
	sundays = with(func(c *api.Clause) { c.Week, c.From, c.Until = 1<<7, 86400, 86400*9 })
	never   = with(func(c *api.Clause) { c.From, c.Until = 9, 8 })
	noDay   = with(func(c *api.Clause) { c.Month, c.Dom = 1<<2, 1<<30 })
)

func TestOfMayHasJoinWhole(t *testing.T) { // 17.1
	eight := slices.Repeat([]api.Clause{full}, 8)
	for _, cs := range [][]api.Clause{nil, {full}, {never, mondays, full}, eight} {
		got, e := Of(cs...)
		if !slices.Equal(got, cs) || e != api.OK || !May(cs) {
			t.Errorf("Of %d clauses: %v", len(cs), e)
		}
	}
	for _, c := range []struct {
		cs []api.Clause
		e  api.Errno
	}{{append(slices.Clone(eight), full), api.ErrLong}, {append(slices.Clone(eight), broken), api.ErrLong}, {[]api.Clause{full, broken}, api.ErrArg}} {
		if got, e := Of(c.cs...); got != nil || e != c.e || May(c.cs) || Has(c.cs, 0) {
			t.Errorf("Of %d clauses: %v, want %v", len(c.cs), e, c.e)
		}
		if got, e := Join(c.cs[:1], nil, c.cs[1:]); got != nil || e != c.e {
			t.Errorf("Join of %d clauses: %v", len(c.cs), e)
		}
	}
	if got, e := Join(Whole(), Whole()); !slices.Equal(got, []api.Clause{full, full}) || e != api.OK {
		t.Error("Join of Whole and Whole")
	}
	if got, e := Join(); len(got) != 0 || e != api.OK {
		t.Error("Join of none")
	}
	set := []api.Clause{mondays, sundays}
	for x, want := range map[int64]bool{0: false, 3 * 86400: true, 4 * 86400: true, 10 * 86400: false, 11 * 86400: true, -1: false, api.End: false} {
		if Has(set, x) != want {
			t.Errorf("Has %d: want %v", x, want)
		}
	}
	if Has(nil, 0) || !slices.Equal(Whole(), []api.Clause{full}) {
		t.Error("Whole")
	}
	mine := []api.Clause{mondays}
	got, _ := Of(mine...)
	mine[0] = full
	if got[0] != mondays {
		t.Error("the clauses are kept")
	}
}

func TestWithinHull(t *testing.T) { // 17.2, 17.4
	set := []api.Clause{mondays, sundays, never}
	s := span.Span{From: 5 * 86400, Until: 20 * 86400}
	in := Within(set, s)
	if len(in) != 3 || in[0].From != s.From || in[0].Until != s.Until || in[1].From != s.From || in[1].Until != 86400*9 {
		t.Errorf("Within: %+v", in)
	}
	r := rand.New(rand.NewSource(17))
	for range 3000 {
		x := r.Int63n(30 * 86400)
		if Has(in, x) != (Has(set, x) && span.In(s, x)) {
			t.Fatalf("instant %d", x)
		}
		if Has(in, x) && !span.In(Hull(in), x) {
			t.Fatalf("instant %d isn't in the hull", x)
		}
	}
	if set[0].From != 0 || Within([]api.Clause{full, broken}, s) != nil || Within(nil, s) != nil {
		t.Error("Within changes a set, or has what may not be")
	}
	if Hull([]api.Clause{sundays, never}) != (span.Span{From: 86400, Until: 86400 * 9}) || Hull(set) != span.Whole() || !span.Empty(Hull(nil)) || !span.Empty(Hull([]api.Clause{never})) {
		t.Error("Hull")
	}
	if Hull([]api.Clause{with(func(c *api.Clause) { c.From, c.Until = math.MinInt64, 5 }), with(func(c *api.Clause) { c.From, c.Until = 50, math.MaxInt64 })}) != span.Whole() {
		t.Error("Hull is held")
	}
}

func TestTrim(t *testing.T) { // 17.3, 17.4
	if got := Trim([]api.Clause{full, full}); !slices.Equal(got, Whole()) {
		t.Errorf("Trim: %d clauses", len(got))
	}
	set := []api.Clause{never, sundays, noDay, mondays, sundays, mondays}
	got := Trim(set)
	if !slices.Equal(got, []api.Clause{sundays, mondays}) {
		t.Errorf("Trim: %+v", got)
	}
	for x := int64(0); x < 30*86400; x += 10000 {
		if Has(got, x) != Has(set, x) {
			t.Fatalf("instant %d", x)
		}
	}
	short := []api.Clause{with(func(c *api.Clause) { c.From, c.Until = 3, 5 })}
	if got := Trim(short); !slices.Equal(got, short) {
		t.Errorf("day 0 alone: %+v", got)
	}
	if len(Trim(nil)) != 0 || Trim([]api.Clause{full, broken}) != nil {
		t.Error("Trim of nothing, and of what may not be")
	}
}
