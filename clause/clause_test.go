package clause

import (
	"math"
	"math/rand"
	"testing"

	"feria/api"
	"feria/mask"
	"feria/span"
	"feria/week"
	"feria/wide"
)

// with is Full, changed.
func with(change func(c *api.Clause)) api.Clause {
	c := Full()
	change(&c)
	return c
}

func ordOf(in int, back bool, weekday int, ns ...int) api.Ord {
	o := api.Ord{In: in, Back: back}
	o.Days[weekday] = mask.Of(ns...)
	return o
}

func TestFullMay(t *testing.T) { // 13.1
	f := Full()
	if f.Second != 1<<60-1 || f.Minute != 1<<60-1 || f.Hour != 1<<24-1 || f.Month != 1<<13-2 || f.Dom != 1<<32-2 || f.End != 1<<32-2 || f.Week != 1<<8-2 {
		t.Error("Full's masks")
	}
	if f.Or || f.Ord != (api.Ord{}) || f.Years != wide.Full() || f.Unit != api.Second || f.Step != 1 || f.Anchor != 0 || f.From != 0 || f.Until != 12622780799 {
		t.Error("Full")
	}
	for i, c := range []api.Clause{
		f,
		with(func(c *api.Clause) { c.Second, c.Minute, c.Hour, c.Month, c.Dom, c.End, c.Week = 0, 0, 0, 0, 0, 0, 0 }),
		with(func(c *api.Clause) { c.Or, c.From, c.Until = true, math.MinInt64, math.MaxInt64 }),
		with(func(c *api.Clause) { c.From, c.Until = 9, 3 }),
		with(func(c *api.Clause) { c.Ord = ordOf(1, true, 7, 1, 5) }),
		with(func(c *api.Clause) { c.Ord = ordOf(2, false, 1, 1, 53) }),
		with(func(c *api.Clause) { c.Ord.In = 1 }),
		with(func(c *api.Clause) { c.Unit, c.Step, c.Anchor = api.Year, math.MaxInt64, api.End-1 }),
	} {
		if !May(c) {
			t.Errorf("clause %d may be", i)
		}
	}
	for i, c := range []api.Clause{
		{},
		with(func(c *api.Clause) { c.Second |= 1 << 60 }), with(func(c *api.Clause) { c.Minute |= 1 << 60 }), with(func(c *api.Clause) { c.Hour |= 1 << 24 }),
		with(func(c *api.Clause) { c.Month |= 1 }), with(func(c *api.Clause) { c.Month |= 1 << 13 }), with(func(c *api.Clause) { c.Dom |= 1 }), with(func(c *api.Clause) { c.Dom |= 1 << 32 }),
		with(func(c *api.Clause) { c.End |= 1 }), with(func(c *api.Clause) { c.End |= 1 << 32 }), with(func(c *api.Clause) { c.Week |= 1 }), with(func(c *api.Clause) { c.Week |= 1 << 8 }),
		with(func(c *api.Clause) { c.Ord.Back = true }), with(func(c *api.Clause) { c.Ord.Days[3] = 2 }), with(func(c *api.Clause) { c.Ord = ordOf(1, false, 0, 1) }),
		with(func(c *api.Clause) { c.Ord = ordOf(1, false, 1, 6) }), with(func(c *api.Clause) { c.Ord = ordOf(1, false, 1, 0) }), with(func(c *api.Clause) { c.Ord = ordOf(2, false, 1, 54) }),
		with(func(c *api.Clause) { c.Ord = ordOf(2, false, 0, 5) }), with(func(c *api.Clause) { c.Ord.In = 3 }), with(func(c *api.Clause) { c.Ord.In = -1 }),
		with(func(c *api.Clause) { c.Years[6] |= 1 << 16 }), with(func(c *api.Clause) { c.Unit = 7 }), with(func(c *api.Clause) { c.Unit = -1 }),
		with(func(c *api.Clause) { c.Step = 0 }), with(func(c *api.Clause) { c.Anchor = -1 }), with(func(c *api.Clause) { c.Anchor = api.End }),
	} {
		if May(c) || Has(c, 0) || Day(c, api.Shape{}) {
			t.Errorf("clause %d may not be", i)
		}
	}
}

func TestDay(t *testing.T) { // 13.2
	friday13, _ := week.Shape(43) // 1970-02-13
	if friday13.Dom != 13 || friday13.Week != 5 {
		t.Fatalf("%+v", friday13)
	}
	for i, c := range []struct {
		want   bool
		change func(c *api.Clause)
	}{
		{true, func(c *api.Clause) {}},
		{true, func(c *api.Clause) { c.Years, c.Month, c.End, c.Dom, c.Week = wide.Of(0), 1<<2, 1<<16, 1<<13, 1<<5 }},
		{false, func(c *api.Clause) { c.Years = wide.Of(1) }}, {false, func(c *api.Clause) { c.Month = 1 << 1 }}, {false, func(c *api.Clause) { c.End = 1 << 13 }},
		{false, func(c *api.Clause) { c.Dom = 1 << 12 }}, {false, func(c *api.Clause) { c.Week = 1 << 4 }},
		{true, func(c *api.Clause) { c.Or, c.Dom = true, 1<<12 }}, {true, func(c *api.Clause) { c.Or, c.Week = true, 1<<4 }}, {false, func(c *api.Clause) { c.Or, c.Week, c.Dom = true, 1<<4, 1<<12 }},
		{true, func(c *api.Clause) { c.Ord = ordOf(1, false, 5, 2) }}, {false, func(c *api.Clause) { c.Ord = ordOf(1, false, 5, 3) }}, {false, func(c *api.Clause) { c.Ord = ordOf(1, false, 4, 2) }},
		{true, func(c *api.Clause) { c.Ord = ordOf(1, true, 5, 3) }}, {false, func(c *api.Clause) { c.Ord = ordOf(1, true, 5, 2) }},
		{true, func(c *api.Clause) { c.Ord = ordOf(2, false, 5, 7) }}, {true, func(c *api.Clause) { c.Ord = ordOf(2, true, 5, 46) }}, {false, func(c *api.Clause) { c.Ord = ordOf(2, true, 5, 7) }},
		{false, func(c *api.Clause) { c.Unit, c.Step = api.Day, 2 }}, {true, func(c *api.Clause) { c.Unit, c.Step, c.Anchor = api.Day, 2, 86400 }},
		{true, func(c *api.Clause) { c.Unit, c.Step = api.Week, 6 }}, {false, func(c *api.Clause) { c.Unit, c.Step = api.Month, 2 }}, {true, func(c *api.Clause) { c.Unit, c.Step = api.Hour, 999 }},
		{true, func(c *api.Clause) { c.From, c.Until = 0, 1 }}, {true, func(c *api.Clause) { c.Hour = 0 }},
	} {
		x := with(c.change)
		if Day(x, friday13) != c.want || Days(x)(friday13) != c.want {
			t.Errorf("clause %d: want %v", i, c.want)
		}
	}
	monday := with(func(c *api.Clause) { c.Week = 1 << 1 })
	four, _ := week.Shape(4)
	zero, _ := week.Shape(0)
	if !Day(monday, four) || Day(monday, zero) {
		t.Error("the example")
	}
	Day(with(func(c *api.Clause) { c.Or, c.Ord.In = true, 1 }), api.Shape{Year: 1970, Month: 1, Dom: 1, Back: 1, Week: 99})
}

func TestHasSpanSame(t *testing.T) { // 13.2, 13.4
	f := Full()
	for _, x := range []int64{0, 1, 86400, api.End - 1, 5555555555} {
		if !Has(f, x) {
			t.Errorf("Full has %d", x)
		}
	}
	for _, x := range []int64{-1, api.End, math.MinInt64, math.MaxInt64} {
		if Has(with(func(c *api.Clause) { c.From, c.Until = math.MinInt64, math.MaxInt64 }), x) {
			t.Errorf("an instant outside: %d", x)
		}
	}
	c := with(func(c *api.Clause) {
		c.Second, c.Minute, c.Hour, c.Unit, c.Step, c.Anchor, c.From, c.Until = 1<<5, 1<<7, 1<<0|1<<1, api.Hour, 5, 3600, 3600, 86400*9
	})
	for x, want := range map[int64]bool{3600 + 425: true, 425: false, 3600 + 424: false, 3600 + 485: false, 24*3600 + 425: false, 25*3600 + 425: false, 11*3600*11 + 425: true, 241*3600 + 425: false, 122*3600 + 425: false} {
		if Has(c, x) != want {
			t.Errorf("Has %d: want %v", x, want)
		}
	}
	if Span(c) != (span.Span{From: 3600, Until: 86400 * 9}) || Span(with(func(c *api.Clause) { c.From = api.End })) != (span.Span{From: 0, Until: -1}) {
		t.Error("Span")
	}
	if !Same(f, Full()) || Same(f, c) || Same(f, with(func(c *api.Clause) { c.Ord.Days[7] = 1 })) {
		t.Error("Same")
	}
}

// some is a clause by chance.
func some(r *rand.Rand) api.Clause {
	return with(func(c *api.Clause) {
		thin := func(m *uint64) {
			if r.Intn(2) == 0 {
				*m &= r.Uint64() | r.Uint64()
			}
		}
		for _, m := range []*uint64{&c.Second, &c.Minute, &c.Hour, &c.Month, &c.Dom, &c.End, &c.Week} {
			thin(m)
		}
		if r.Intn(4) == 0 {
			c.Ord = ordOf(1, r.Intn(2) == 0, 1+r.Intn(7), 1, 2, 4)
		}
		if r.Intn(3) == 0 {
			c.Unit, c.Step, c.Anchor = r.Intn(api.Units), 1+r.Int63n(3), r.Int63n(api.End)
		}
		c.From, c.Until = r.Int63n(9)-4, api.End-5+r.Int63n(9)
		c.Or = r.Intn(9) == 0
	})
}

func TestMeet(t *testing.T) { // 13.3, 13.4
	if c, ok := Meet(); c != Full() || !ok {
		t.Error("Meet of none")
	}
	r := rand.New(rand.NewSource(13))
	for range 3000 {
		a, b := some(r), some(r)
		m, ok := Meet(a, b)
		ords, steps := 0, 0
		for _, c := range []api.Clause{a, b} {
			if c.Ord.In != 0 {
				ords++
			}
			if c.Step > 1 {
				steps++
			}
		}
		if want := !a.Or && !b.Or && ords < 2 && steps < 2; ok != want {
			t.Fatalf("Meet: %v, want %v", ok, want)
		}
		if !ok && m != (api.Clause{}) {
			t.Fatal("a clause beside false")
		}
		for range 30 {
			x := r.Int63n(api.End)
			if ok && Has(m, x) != (Has(a, x) && Has(b, x)) {
				t.Fatalf("%d has %+v, %+v: %+v", x, a, b, m)
			}
		}
	}
	one, ok := Meet(with(func(c *api.Clause) { c.Unit, c.Anchor, c.From, c.Until = api.Week, 5, -7, math.MaxInt64 }))
	if one != Full() || !ok {
		t.Error("a step of 1 says nothing, and From and Until are held")
	}
	if m, ok := Meet(Full(), api.Clause{}); ok || m != (api.Clause{}) {
		t.Error("what may not be")
	}
}
