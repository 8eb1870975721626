package meet

import (
	"math/rand"
	"slices"
	"testing"

	"feria/api"
	"feria/clause"
	"feria/ir"
	"feria/roll"
)

// with is Full, changed.
func with(change func(c *api.Clause)) api.Clause {
	c := clause.Full()
	change(&c)
	return c
}

var (
	bad  = []api.Clause{{}}
	long = slices.Repeat(ir.Whole(), 9)
)

// near is a set by chance whose instants lie in the first days, some of each.
func near(r *rand.Rand) []api.Clause {
	var cs []api.Clause
	for range r.Intn(3) {
		cs = append(cs, with(func(c *api.Clause) {
			c.Second, c.Minute, c.Hour = 1, 1|1<<30, 1<<r.Intn(2)|1<<5
			if r.Intn(2) == 0 {
				c.Week = 1 << (1 + r.Intn(7))
			}
			c.Unit, c.Step = r.Intn(api.Units), 1+r.Int63n(2)
			c.From, c.Until = r.Int63n(3*86400), 4*86400+r.Int63n(3*86400)
		}))
	}
	return cs
}

func TestDecide(t *testing.T) { // 21.1
	r := rand.New(rand.NewSource(21))
	yes := [4]int{}
	for range 300 {
		a, b := near(r), near(r)
		if r.Intn(3) == 0 {
			b, _ = ir.Join(a, b[:min(len(b), r.Intn(2))])
		}
		want := [4]api.Verdict{{Yes: true}, {Yes: true}, {Yes: true}, {Yes: true}}
		found := func(i int, is bool, x int64, first bool) {
			if is && want[i].Yes {
				want[i] = api.Verdict{At: x, First: first}
			}
		}
		for x := int64(0); x < 8*86400; x += 1800 {
			in, out := ir.Has(a, x), ir.Has(b, x)
			found(0, in != out, x, in)
			found(1, in && !out, x, true)
			found(2, in, x, true)
			found(3, in && out, x, true)
		}
		for i, ask := range []func() (api.Verdict, api.Errno){
			func() (api.Verdict, api.Errno) { return Equal(a, b) },
			func() (api.Verdict, api.Errno) { return Within(a, b) },
			func() (api.Verdict, api.Errno) { return Empty(a) },
			func() (api.Verdict, api.Errno) { return Apart(a, b) },
		} {
			if v, e := ask(); v != want[i] || e != api.OK {
				t.Fatalf("question %d: %+v, %v; want %+v; %+v; %+v", i, v, e, want[i], a, b)
			}
			if want[i].Yes {
				yes[i]++
			}
		}
	}
	for i, n := range yes {
		if n < 10 || n > 290 {
			t.Errorf("question %d is answered yes %d times", i, n)
		}
	}
}

func TestExampleAndErrors(t *testing.T) { // 21.1
	six := []api.Clause{with(func(c *api.Clause) { c.Week = 1<<7 - 2 })}
	if v, e := Equal(ir.Whole(), six); v != (api.Verdict{At: 259200, First: true}) || e != api.OK {
		t.Errorf("the example: %+v, %v", v, e)
	}
	if v, _ := Equal(six, ir.Whole()); v != (api.Verdict{At: 259200}) {
		t.Errorf("the other way round: %+v", v)
	}
	last := []api.Clause{with(func(c *api.Clause) { c.Until = api.End - 2 })}
	if v, _ := Equal(last, ir.Whole()); v != (api.Verdict{At: api.End - 1}) {
		t.Errorf("the last instant: %+v", v)
	}
	parts := []api.Clause{with(func(c *api.Clause) { c.Week = 1<<4 - 2 }), with(func(c *api.Clause) { c.Week = 1<<8 - 1<<4 })}
	if v, _ := Equal(parts, ir.Whole()); !v.Yes {
		t.Errorf("two parts of the whole: %+v", v)
	}
	for _, c := range []struct {
		a, b []api.Clause
		e    api.Errno
	}{{bad, long, api.ErrArg}, {long, bad, api.ErrLong}, {nil, bad, api.ErrArg}, {nil, long, api.ErrLong}} {
		for i, ask := range []func(a, b []api.Clause) (api.Verdict, api.Errno){Equal, Within, Apart} {
			if v, e := ask(c.a, c.b); v != (api.Verdict{}) || e != c.e {
				t.Errorf("question %d: %+v, %v", i, v, e)
			}
		}
		if days, made, e := Work(c.a, c.b); days != 0 || made != 0 || e != c.e {
			t.Errorf("Work: %v", e)
		}
	}
	if v, e := Empty(long); v != (api.Verdict{}) || e != api.ErrLong {
		t.Errorf("Empty: %+v, %v", v, e)
	}
}

func TestWork(t *testing.T) { // 21.2
	run := func(from, until int64) []api.Clause {
		return []api.Clause{with(func(c *api.Clause) { c.From, c.Until = from*86400, until*86400-1 })}
	}
	for i, c := range []struct {
		a, b       []api.Clause
		days, made int
	}{
		{nil, nil, 0, 0}, {ir.Whole(), ir.Whole(), 146097, 2}, {ir.Whole(), nil, 1, 1}, {run(5, 9), run(5, 9), 4, 2}, {run(5, 9), run(5, 8), 4, 2},
		{run(5, 9), nil, 1, 1},
		{[]api.Clause{with(func(c *api.Clause) { c.Hour, c.Until = 0, 5*86400 })}, []api.Clause{with(func(c *api.Clause) { c.Hour, c.From, c.Until = 0, 50*86400, 60*86400 })}, 17, 4},
		{[]api.Clause{with(func(c *api.Clause) { c.Week = 1 << 1 })}, []api.Clause{with(func(c *api.Clause) { c.Week = 1<<1 | 1<<7 })}, 4, 1},
	} {
		if days, made, e := Work(c.a, c.b); days != c.days || made != c.made || e != api.OK {
			t.Errorf("work %d: %d, %d, %v; want %d, %d", i, days, made, e, c.days, c.made)
		}
	}
}

func TestWorkBound(t *testing.T) { // 21.3
	r := rand.New(rand.NewSource(22))
	whole := func() []api.Clause {
		var cs []api.Clause
		for range r.Intn(4) {
			cs = append(cs, with(func(c *api.Clause) {
				c.Week &= r.Uint64() | r.Uint64()
				c.Dom &= r.Uint64() | r.Uint64()
				c.Or = r.Intn(2) == 0
				c.Unit, c.Step = api.Day+r.Intn(4), 1+r.Int63n(3)
			}))
		}
		return cs
	}
	for range 40 {
		a, b := whole(), whole()
		if r.Intn(2) == 0 {
			b = slices.Clone(a)
			slices.Reverse(b)
		}
		days, made, e := Work(a, b)
		if e != api.OK || days > 146097 || roll.Steps(a) == 0 && roll.Steps(b) == 0 && made > 1<<len(a)+1<<len(b) {
			t.Fatalf("Work: %d, %d, %v", days, made, e)
		}
	}
}
