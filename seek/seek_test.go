package seek

import (
	"math"
	"math/rand"
	"slices"
	"testing"

	"feria/api"
	"feria/clause"
	"feria/ir"
)

// with is Full, changed.
func with(change func(c *api.Clause)) api.Clause {
	c := clause.Full()
	change(&c)
	return c
}

var (
	nine = with(func(c *api.Clause) { c.Hour, c.Minute, c.Second, c.Week = 1<<9, 1, 1, 1<<1|1<<5 })
	rare = with(func(c *api.Clause) {
		c.Hour, c.Minute, c.Second, c.Month, c.Dom, c.Week = 1<<3, 1<<7, 1<<9, 1<<2, 1<<29, 1<<7
	})
	stepped = with(func(c *api.Clause) { c.Unit, c.Step, c.Anchor, c.From, c.Until = api.Second, 100003, 7, 5, 9000000 })
	never   = with(func(c *api.Clause) { c.Hour = 0 })
	bad     = []api.Clause{{}}
	long    = slices.Repeat(ir.Whole(), 9)
)

// brute is the instants of a set from 0 on, up to an instant, looked for one by one.
func brute(cs []api.Clause, until int64) []int64 {
	var ts []int64
	for t := int64(0); t <= until; t++ {
		if ir.Has(cs, t) {
			ts = append(ts, t)
		}
	}
	return ts
}

func TestNextPrev(t *testing.T) { // 19.1, 19.3
	for _, cs := range [][]api.Clause{{nine}, {nine, stepped}, {stepped}, {never, nine}} {
		want := brute(cs, 12*86400)
		at := int64(math.MinInt64)
		for i, x := range want {
			got, e := Next(cs, at)
			if got != x || e != api.OK {
				t.Fatalf("Next(%d) = %d, %v; want %d", at, got, e, x)
			}
			if back, e := Prev(cs, got+1); back != x || e != api.OK {
				t.Fatalf("Prev(%d) = %d, %v", got+1, back, e)
			}
			back, e := Prev(cs, got)
			if i == 0 && (back != 0 || e != api.ErrNone) || i > 0 && (back != want[i-1] || e != api.OK) {
				t.Fatalf("Prev(%d) = %d, %v", got, back, e)
			}
			at = got
		}
		if first, e := First(cs); first != want[0] || e != api.OK {
			t.Fatalf("First: %d, %v", first, e)
		}
	}
	if x, e := Next([]api.Clause{rare}, 0); e != api.OK || !ir.Has([]api.Clause{rare}, x) {
		t.Errorf("a rare one: %d, %v", x, e)
	}
	if x, e := Last([]api.Clause{rare}); e != api.OK || !ir.Has([]api.Clause{rare}, x) {
		t.Errorf("the last rare one: %d, %v", x, e)
	}
}

func TestEnds(t *testing.T) { // 19.1
	w := ir.Whole()
	for _, c := range []struct {
		t, next int64
		e       api.Errno
	}{{5, 6, api.OK}, {-9, 0, api.OK}, {-1, 0, api.OK}, {api.End - 2, api.End - 1, api.OK}, {api.End - 1, 0, api.ErrNone}, {api.End, 0, api.ErrNone}, {math.MaxInt64, 0, api.ErrNone}, {math.MinInt64, 0, api.OK}} {
		if x, e := Next(w, c.t); x != c.next || e != c.e {
			t.Errorf("Next(%d) = %d, %v", c.t, x, e)
		}
	}
	for _, c := range []struct {
		t, prev int64
		e       api.Errno
	}{{5, 4, api.OK}, {1, 0, api.OK}, {0, 0, api.ErrNone}, {-5, 0, api.ErrNone}, {math.MinInt64, 0, api.ErrNone}, {api.End, api.End - 1, api.OK}, {api.End - 1, api.End - 2, api.OK}, {math.MaxInt64, api.End - 1, api.OK}} {
		if x, e := Prev(w, c.t); x != c.prev || e != c.e {
			t.Errorf("Prev(%d) = %d, %v", c.t, x, e)
		}
	}
	if x, e := Last(w); x != api.End-1 || e != api.OK {
		t.Errorf("Last: %d, %v", x, e)
	}
	for _, ask := range []func([]api.Clause) (int64, api.Errno){
		First, Last,
		func(cs []api.Clause) (int64, api.Errno) { return Next(cs, 5) },
		func(cs []api.Clause) (int64, api.Errno) { return Prev(cs, 5) },
	} {
		for _, c := range []struct {
			cs []api.Clause
			e  api.Errno
		}{{nil, api.ErrNone}, {[]api.Clause{never}, api.ErrNone}, {bad, api.ErrArg}, {long, api.ErrLong}} {
			if x, e := ask(c.cs); x != 0 || e != c.e {
				t.Errorf("%d, %v; want %v", x, e, c.e)
			}
		}
	}
}

func TestAll(t *testing.T) { // 19.2
	r := rand.New(rand.NewSource(19))
	cs := []api.Clause{nine, stepped}
	want := brute(cs, 20*86400)
	for range 50 {
		from, until := r.Int63n(20*86400)-9, r.Int63n(20*86400)-9
		var in []int64
		for _, x := range want {
			if x >= from && x <= until {
				in = append(in, x)
			}
		}
		seq := All(cs, from, until)
		for range 2 {
			if got := slices.Collect(seq); !slices.Equal(got, in) {
				t.Fatalf("All(%d, %d): %v, want %v", from, until, got, in)
			}
		}
	}
	if got := slices.Collect(All(ir.Whole(), math.MinInt64, 3)); !slices.Equal(got, []int64{0, 1, 2, 3}) {
		t.Errorf("the first ones: %v", got)
	}
	if got := slices.Collect(All(ir.Whole(), api.End-2, math.MaxInt64)); !slices.Equal(got, []int64{api.End - 2, api.End - 1}) {
		t.Errorf("the last ones: %v", got)
	}
	for _, cs := range [][]api.Clause{nil, bad, long, {never}} {
		for range All(cs, 0, api.End) {
			t.Error("an instant of none")
		}
	}
	for range All(ir.Whole(), math.MaxInt64, math.MinInt64) {
		t.Error("from behind until")
	}
	mine := []api.Clause{nine}
	seq := All(mine, 0, api.End)
	mine[0] = never
	for x := range seq {
		if x != want[0] && !ir.Has([]api.Clause{nine}, x) {
			t.Error("the set is kept")
		}
		return
	}
	t.Error("the set is kept")
}

func TestSome(t *testing.T) { // 19.2
	cs := []api.Clause{nine, stepped}
	want := brute(cs, 20*86400)
	if got, e := Some(cs, -1, 10); !slices.Equal(got, want[:10]) || e != api.OK {
		t.Errorf("Some: %v, %v", got, e)
	}
	if got, e := Some(cs, -1, 1); !slices.Equal(got, want[:1]) || e != api.OK {
		t.Errorf("one: %v, %v", got, e)
	}
	if got, e := Some(cs, want[3], 2); !slices.Equal(got, want[4:6]) || e != api.OK {
		t.Errorf("Some behind one: %v, %v", got, e)
	}
	if got, e := Some(ir.Whole(), 5, 10000); len(got) != 10000 || got[9999] != 10005 || e != api.OK {
		t.Errorf("10000: %d, %v", len(got), e)
	}
	if got, e := Some(ir.Whole(), api.End-3, 9); !slices.Equal(got, []int64{api.End - 2, api.End - 1}) || e != api.OK {
		t.Errorf("fewer: %v, %v", got, e)
	}
	if got, e := Some([]api.Clause{never}, math.MaxInt64, 9); len(got) != 0 || e != api.OK {
		t.Errorf("none: %v, %v", got, e)
	}
	for _, c := range []struct {
		cs   []api.Clause
		most int
		e    api.Errno
	}{{ir.Whole(), 0, api.ErrArg}, {ir.Whole(), -1, api.ErrArg}, {ir.Whole(), 10001, api.ErrArg}, {long, 0, api.ErrLong}, {bad, 5, api.ErrArg}} {
		if got, e := Some(c.cs, 0, c.most); got != nil || e != c.e {
			t.Errorf("Some: %v, %v; want %v", got, e, c.e)
		}
	}
}
