package lap

import (
	"math"
	"math/rand"
	"slices"
	"testing"

	"feria/api"
	"feria/clause"
	"feria/disc"
	"feria/week"
)

// with is Full, changed.
func with(change func(c *api.Clause)) api.Clause {
	c := clause.Full()
	change(&c)
	return c
}

func shape(n int64) api.Shape {
	s, _ := week.Shape(n)
	return s
}

func seconds(d *disc.Disc) []int { return slices.Collect(d.All()) }

func TestOn(t *testing.T) { // 16.1
	fifth := with(func(c *api.Clause) { c.Unit, c.Step = api.Hour, 5 })
	if x := On(fifth, shape(1)); x != (State{true, 0, 86399, 1}) {
		t.Errorf("the example: %+v", x)
	}
	cut := with(func(c *api.Clause) { c.From, c.Until, c.Week = 86400+7, 3*86400+9, 1<<5|1<<7 })
	laps := Laps(cut)
	for n, want := range []State{{}, {true, 7, 86399, 0}, {}, {true, 0, 9, 0}, {}} {
		if x := On(cut, shape(int64(n))); x != want || laps(shape(int64(n))) != want {
			t.Errorf("day %d: %+v", n, x)
		}
	}
	one := with(func(c *api.Clause) { c.From, c.Until = 86400+7, 86400+9 })
	if x := On(one, shape(1)); x != (State{true, 7, 9, 0}) {
		t.Errorf("a span in a day: %+v", x)
	}
	for i, c := range []api.Clause{{}, with(func(c *api.Clause) { c.From, c.Until = 9, 8 }), with(func(c *api.Clause) { c.Unit, c.Step = api.Day, 2 })} {
		if x := On(c, shape(1)); x != (State{}) {
			t.Errorf("clause %d: %+v", i, x)
		}
	}
	if On(clause.Full(), api.Shape{Day: -1}).Active || On(clause.Full(), api.Shape{Day: math.MaxInt}).Active {
		t.Error("days outside")
	}
	if x := On(with(func(c *api.Clause) { c.Unit, c.Step, c.Anchor = api.Second, math.MaxInt64, 5 }), shape(1)); x.Phase != math.MaxInt64-86400+5 {
		t.Errorf("a great step: %+v", x)
	}
}

// some is a clause by chance.
func some(r *rand.Rand) api.Clause {
	return with(func(c *api.Clause) {
		for _, m := range []*uint64{&c.Second, &c.Minute, &c.Hour} {
			if r.Intn(2) == 0 {
				*m &= r.Uint64() & r.Uint64()
			}
		}
		c.Unit, c.Step, c.Anchor = r.Intn(api.Units), 1+r.Int63n(20), r.Int63n(api.End)
		c.From, c.Until = r.Int63n(3*86400), 3*86400+r.Int63n(3*86400)
	})
}

func TestSeconds(t *testing.T) { // 16.2, 16.3
	r := rand.New(rand.NewSource(16))
	for range 60 {
		c := some(r)
		n := r.Int63n(6)
		x := On(c, shape(n))
		var want []int
		for s := range 86400 {
			if clause.Has(c, n*86400+int64(s)) {
				want = append(want, s)
			}
		}
		if got := seconds(Seconds(c, x)); !slices.Equal(got, want) || Len(c, x) != len(want) {
			t.Fatalf("%+v: %+v: %d seconds, want %d", c, x, len(got), len(want))
		}
	}
}

func TestStates(t *testing.T) { // 16.2
	f := clause.Full()
	fifth := with(func(c *api.Clause) { c.Unit, c.Step, c.Minute, c.Second = api.Hour, 5, 1, 1 })
	for _, c := range []struct {
		c    api.Clause
		x    State
		want []int
	}{
		{f, State{}, nil}, {f, State{false, 0, 5, 0}, nil}, {f, State{true, 3, 5, 0}, []int{3, 4, 5}}, {f, State{true, 5, 3, 0}, nil}, {f, State{true, -9, 1, 0}, []int{0, 1}},
		{f, State{true, 86398, math.MaxInt, 0}, []int{86398, 86399}}, {f, State{true, 0, 9, -1}, nil}, {api.Clause{}, State{true, 0, 9, 0}, nil}, {f, State{true, 0, 9, 8}, []int{8, 9}},
		{fifth, State{true, 0, 86399, 1}, []int{3600, 21600, 39600, 57600, 75600}}, {fifth, State{true, 3601, 40000, 6}, []int{21600, 39600}}, {fifth, State{true, 0, 86399, 24}, nil},
		{fifth, State{true, 0, 86399, math.MaxInt64}, nil},
		{with(func(c *api.Clause) { c.Unit, c.Step = api.Second, math.MaxInt64 }), State{true, 0, 86399, 7}, []int{7}},
		{with(func(c *api.Clause) { c.Unit, c.Step = api.Second, 40000 }), State{true, 7, 80007, 7}, []int{7, 40007, 80007}}, {with(func(c *api.Clause) { c.Unit, c.Step = api.Second, 40000 }), State{true, 8, 80006, 7}, []int{40007}},
		{with(func(c *api.Clause) { c.Unit, c.Step = api.Second, 86399 }), State{true, 0, 86399, 0}, []int{0, 86399}}, {with(func(c *api.Clause) { c.Unit, c.Step = api.Second, 86400 }), State{true, 0, 86399, 86399}, []int{86399}},
		{with(func(c *api.Clause) { c.Unit, c.Step, c.Minute, c.Second = api.Hour, 1, 1, 1 }), State{true, 0, 86399, 22}, []int{79200, 82800}},
		{with(func(c *api.Clause) { c.Unit, c.Step, c.Second = api.Minute, 1000, 1<<3 }), State{true, 0, 86399, 2}, []int{123, 60123}},
		{with(func(c *api.Clause) { c.Unit, c.Step, c.Hour, c.Minute, c.Second = api.Week, 3, 1<<2, 1<<3, 1<<4 }), State{true, 0, 86399, 2}, []int{7384}},
	} {
		if got := seconds(Seconds(c.c, c.x)); !slices.Equal(got, c.want) || Len(c.c, c.x) != len(c.want) {
			t.Errorf("%+v: %v, want %v", c.x, got, c.want)
		}
	}
	d := Seconds(f, State{})
	if d.Put(3) != 1 {
		t.Error("a disc that is new may be put into")
	}
}
