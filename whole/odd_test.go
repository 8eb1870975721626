package whole

import (
	"iter"
	"math"
	"math/rand"
	"reflect"
	"strings"
	"testing"

	"feria/api"
	"feria/bound"
	"feria/cal"
	"feria/callow"
	"feria/calread"
	"feria/calshow"
	"feria/canon"
	"feria/cast"
	"feria/civil"
	"feria/clause"
	"feria/cover"
	"feria/cron"
	"feria/cronlow"
	"feria/cronread"
	"feria/cronshow"
	"feria/day"
	"feria/deno"
	"feria/desk"
	"feria/differ"
	"feria/disc"
	"feria/fires"
	"feria/ir"
	"feria/item"
	"feria/lap"
	"feria/lex"
	"feria/mask"
	"feria/meet"
	"feria/moment"
	"feria/num"
	"feria/pack"
	"feria/plan"
	"feria/pulse"
	"feria/roll"
	"feria/rule"
	"feria/rulelow"
	"feria/ruleread"
	"feria/ruleshow"
	"feria/seek"
	"feria/span"
	"feria/spell"
	"feria/tally"
	"feria/tocal"
	"feria/tocron"
	"feria/tod"
	"feria/torule"
	"feria/unit"
	"feria/week"
	"feria/wide"
	"feria/xlate"
)

// light are calls that are done soon whatever they are given, and heavy those that may go over all days.
var light = []any{
	num.Floor, num.Mod, num.Gcd, num.Sum, num.Times, num.Held, mask.Of, mask.Span, mask.Has, mask.Len, mask.Least, mask.Next, mask.Without, mask.All, cover.Of, cover.Mask, cover.List, cover.Len,
	wide.Of, wide.Full, wide.May, wide.Has, wide.Len, wide.Both, wide.Either, wide.All, wide.Bounds, civil.Leap, civil.Length, civil.Number, civil.Date, civil.Ordinal, civil.Cycle,
	week.Day, week.Number, week.Which, week.Shape, week.Days, week.Name, week.Of, tod.Of, tod.Parts, tod.In, tod.Next, tod.Last, tod.Len, tod.All, moment.In, moment.Split, moment.Join, moment.Stamp, moment.Of, moment.Long, moment.Basic, moment.Read,
	span.Whole, span.Day, span.Held, span.Empty, span.In, span.Len, span.Meet, span.Days, span.Cut, unit.Which, unit.On, unit.OnDay, unit.Days, unit.Phase, unit.Size, unit.Name, unit.Of, lex.New, item.May, item.Right, item.Values, item.Mask, item.Wide, item.Of,
	clause.Full, clause.May, clause.Day, clause.Days, clause.Has, clause.Span, clause.Same, clause.Meet, day.Active, day.All, day.Next, disc.Of, disc.Equal, disc.Lacks, disc.Differ, lap.On, lap.Laps, lap.Seconds, lap.Len, ir.Of, ir.May, ir.Has, ir.Join, ir.Within, ir.Hull, ir.Whole, roll.New, roll.Steps, pulse.Seconds,
	cron.Bounds, cron.Field, cron.Check, cron.Starred, cron.Either, cron.Weekdays, cron.Same, cronread.Read, cronshow.Item, cronshow.Field, cronshow.Show, cronlow.Clause, cronlow.Lower, cal.Bounds, cal.Field, cal.Check, cal.Same, calread.Read, calshow.Item, calshow.Field, calshow.Show, callow.Clause, callow.Lower,
	rule.Check, rule.Plain, rule.Same, rule.Months, rule.Days, rule.Week, rule.Times, ruleread.Read, ruleshow.Weekday, ruleshow.Show, rulelow.Clause, tocron.Both, tocal.Event, torule.Rules, plan.Read, plan.Show, plan.Check, plan.Same, plan.Name, plan.Of, plan.Guess, bound.Period, bound.Lcm, bound.Days, bound.Discs,
	spell.Numbers, spell.Clause, spell.Set, pack.Put, pack.Take, pack.Sum, cast.Box, desk.New, desk.Play,
}

var heavy = []any{
	day.Last, day.Count, ir.Trim, seek.Next, seek.Prev, seek.First, seek.Last, seek.All, seek.Some, tally.Count, tally.Nth, tally.Years, tally.Hours, meet.Equal, meet.Within, meet.Empty, meet.Apart, meet.Work, cast.Of, pulse.Of, pulse.Fits, rulelow.Lower, tocron.Either, tocron.Raise, tocal.Raise, torule.Raise,
	canon.Cron, canon.Cal, canon.Rule, canon.Is, plan.Lower, plan.Canon, plan.Raise, xlate.Translate, xlate.Text, xlate.Equal, xlate.Subset, xlate.Empty, xlate.Next, deno.Means, deno.Upto, deno.Why, fires.After, fires.Every, fires.Gaps, fires.Month, fires.Lines, differ.All, differ.List, differ.Count, differ.Lines, bound.Holds, spell.Plan,
}

// odd makes values by chance, of those a program may be given by mistake, too.
type odd struct{ *rand.Rand }

func (r odd) int64() int64 {
	l := []int64{0, 1, -1, 2, 3, 5, 7, 31, 59, 60, 63, 64, 399, 400, 1970, 2369, 9999, 86399, 86400, 146096, 146097, api.End - 1, api.End, 1e15, math.MaxInt64, math.MinInt64, math.MaxInt32}
	if r.Intn(3) == 0 {
		return r.Int63() >> r.Intn(63) * int64(1-2*r.Intn(2))
	}
	return l[r.Intn(len(l))]
}

func (r odd) uint64() uint64 {
	return []uint64{0, 1, math.MaxUint64, 1<<60 - 1, 1<<24 - 1, 1<<13 - 2, 1<<32 - 2, 1<<8 - 2, r.Uint64()}[r.Intn(9)]
}

func (r odd) clause() api.Clause {
	c := clause.Full()
	for _, m := range []*uint64{&c.Second, &c.Minute, &c.Hour, &c.Month, &c.Dom, &c.End, &c.Week} {
		switch r.Intn(8) {
		case 0:
			*m = r.uint64()
		case 1:
			*m &= r.Uint64()
		}
	}
	if r.Intn(4) == 0 {
		c.Ord.In, c.Ord.Back, c.Ord.Days[r.Intn(8)] = r.Intn(4)-1, r.Intn(2) == 0, 1<<r.Intn(64)
	}
	if r.Intn(4) == 0 {
		c.Years[r.Intn(7)] = r.uint64()
	}
	c.Or = r.Intn(5) == 0
	if r.Intn(2) == 0 {
		c.Unit, c.Step, c.Anchor = r.Intn(9)-1, r.int64(), r.int64()
	}
	if r.Intn(2) == 0 {
		c.From, c.Until = r.int64(), r.int64()
	}
	return c
}

func (r odd) text() string {
	s := texts[r.Intn(len(texts))]
	switch r.Intn(5) {
	case 0:
		return s
	case 1:
		return s[:r.Intn(len(s))]
	case 2:
		return strings.Repeat(s, 1+r.Intn(900))
	}
	b := []byte(s)
	for range 1 + r.Intn(3) {
		b[r.Intn(len(b))] = byte(r.Intn(256))
	}
	return string(b)
}

func (r odd) plan() api.Plan {
	p, e := plan.Guess(texts[r.Intn(len(texts))])
	if e != api.OK || r.Intn(3) == 0 {
		p.Lang = r.Intn(5) - 1
	}
	return p
}

// value is a value of a type.
func (r odd) value(t reflect.Type) reflect.Value {
	v := reflect.New(t).Elem()
	switch t {
	case reflect.TypeFor[api.Clause]():
		return reflect.ValueOf(r.clause())
	case reflect.TypeFor[api.Plan]():
		return reflect.ValueOf(r.plan())
	case reflect.TypeFor[api.Cron]():
		if r.Intn(2) == 0 {
			return reflect.ValueOf(r.plan().Cron)
		}
	case reflect.TypeFor[api.Cal]():
		if r.Intn(2) == 0 {
			return reflect.ValueOf(r.plan().Cal)
		}
	case reflect.TypeFor[api.Rule]():
		if r.Intn(2) == 0 {
			return reflect.ValueOf(r.plan().Rule)
		}
	case reflect.TypeFor[*disc.Disc]():
		return reflect.ValueOf([]*disc.Disc{nil, disc.Of(), disc.Of(0, 86399, r.Intn(86400))}[r.Intn(3)])
	}
	switch t.Kind() {
	case reflect.Int, reflect.Int64:
		v.SetInt(r.int64())
	case reflect.Uint8, reflect.Uint64:
		v.SetUint(r.uint64() & (1<<t.Bits() - 1))
	case reflect.Bool:
		v.SetBool(r.Intn(2) == 0)
	case reflect.String:
		v.SetString(r.text())
	case reflect.Struct:
		for i := range t.NumField() {
			v.Field(i).Set(r.value(t.Field(i).Type))
		}
	case reflect.Array:
		for i := range t.Len() {
			v.Index(i).Set(r.value(t.Elem()))
		}
	case reflect.Slice:
		for range r.Intn(4) * r.Intn(4) {
			v.Set(reflect.Append(v, r.value(t.Elem())))
		}
	}
	return v
}

// try calls a function, and goes some way over what may be ranged over in what it answers.
func (r odd) try(t *testing.T, f reflect.Value) {
	t.Helper()
	var in []reflect.Value
	ft := f.Type()
	for i := range ft.NumIn() {
		in = append(in, r.value(ft.In(i)))
	}
	defer func() {
		if x := recover(); x != nil {
			t.Fatalf("%v panics: %v, of %+v", ft, x, in)
		}
	}()
	var out []reflect.Value
	if ft.IsVariadic() {
		out = f.CallSlice(in)
	} else {
		out = f.Call(in)
	}
	for _, o := range out {
		n := 0
		switch x := o.Interface().(type) {
		case iter.Seq[int]:
			for range x {
				n = next(n)
				if n == 0 {
					break
				}
			}
		case iter.Seq[int64]:
			if x == nil {
				continue
			}
			for range x {
				break
			}
		case func(api.Shape) bool:
			for range 3 {
				x(r.value(reflect.TypeFor[api.Shape]()).Interface().(api.Shape))
			}
		case func(api.Shape) lap.State:
			x(r.value(reflect.TypeFor[api.Shape]()).Interface().(api.Shape))
		}
	}
}

// next is one more, but 0 behind 50.
func next(n int) int { return (n + 1) % 50 }

func TestNothingPanics(t *testing.T) { // P1
	r := odd{rand.New(rand.NewSource(1))}
	for _, f := range light {
		for range 150 {
			r.try(t, reflect.ValueOf(f))
		}
	}
	for _, f := range heavy {
		for range 12 {
			r.try(t, reflect.ValueOf(f))
		}
	}
}

func TestNoMethodPanics(t *testing.T) { // P1
	r := odd{rand.New(rand.NewSource(2))}
	for range 60 {
		x, _ := roll.New([]api.Clause{r.clause()})
		for _, o := range []any{lex.New(r.text()), (*lex.Reader)(nil), disc.Of(5, 9), (*disc.Disc)(nil), x, (*roll.Roll)(nil), desk.New(), (*desk.Desk)(nil)} {
			v := reflect.ValueOf(o)
			for i := range v.NumMethod() {
				r.try(t, v.Method(i))
			}
		}
	}
}
