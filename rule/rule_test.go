package rule

import (
	"go/ast"
	"go/parser"
	"go/token"
	"math"
	"slices"
	"testing"

	"feria/api"
	"feria/clause"
	"feria/mask"
)

const start = 40*86400 + 3600*5 + 60*6 + 7 // Tuesday, 1970-02-10 05:06:07

// with is a daily rule, changed.
func with(change func(r *api.Rule)) api.Rule {
	r := api.Rule{Start: start, Freq: api.Day, Interval: 1, Until: -1}
	change(&r)
	return r
}

// nth is weekdays by their numbers: n, day, n, day, ..
func nth(l ...int) []api.Nth {
	var out []api.Nth
	for i := 0; i+1 < len(l); i += 2 {
		out = append(out, api.Nth{N: l[i], Day: l[i+1]})
	}
	return out
}

func TestCheckNumbers(t *testing.T) { // 32.1
	for i, c := range []struct {
		change func(r *api.Rule)
		e      api.Errno
	}{
		{func(r *api.Rule) {}, api.OK},
		{func(r *api.Rule) { r.Start = 0 }, api.OK}, {func(r *api.Rule) { r.Start = api.End - 1 }, api.OK}, {func(r *api.Rule) { r.Start = -1 }, api.ErrRange}, {func(r *api.Rule) { r.Start = api.End }, api.ErrRange},
		{func(r *api.Rule) { r.Freq = -1 }, api.ErrRange}, {func(r *api.Rule) { r.Freq = 7 }, api.ErrRange},
		{func(r *api.Rule) { r.Interval = 0 }, api.ErrRange}, {func(r *api.Rule) { r.Interval = 1e15 }, api.OK}, {func(r *api.Rule) { r.Interval = 1e15 + 1 }, api.ErrRange},
		{func(r *api.Rule) { r.Count = -1 }, api.ErrRange}, {func(r *api.Rule) { r.Count = 1e15 }, api.OK}, {func(r *api.Rule) { r.Count = 1e15 + 1 }, api.ErrRange},
		{func(r *api.Rule) { r.Until = 0 }, api.OK}, {func(r *api.Rule) { r.Until = api.End - 1 }, api.OK}, {func(r *api.Rule) { r.Until = -2 }, api.ErrRange}, {func(r *api.Rule) { r.Until = api.End }, api.ErrRange},
		{func(r *api.Rule) { r.Until, r.Count = 0, 1 }, api.ErrMix}, {func(r *api.Rule) { r.Until, r.Count = -2, 1 }, api.ErrRange}, {func(r *api.Rule) { r.Until, r.Count, r.Months = 5, 1, []int{13} }, api.ErrMix},
		{func(r *api.Rule) { r.Months = []int{1, 12, 1} }, api.OK}, {func(r *api.Rule) { r.Months = []int{0} }, api.ErrRange}, {func(r *api.Rule) { r.Months = []int{1, 13} }, api.ErrRange},
		{func(r *api.Rule) { r.Hours = []int{0, 23} }, api.OK}, {func(r *api.Rule) { r.Hours = []int{24} }, api.ErrRange}, {func(r *api.Rule) { r.Hours = []int{-1} }, api.ErrRange},
		{func(r *api.Rule) { r.Minutes = []int{0, 59} }, api.OK}, {func(r *api.Rule) { r.Minutes = []int{60} }, api.ErrRange}, {func(r *api.Rule) { r.Seconds = []int{0, 59} }, api.OK}, {func(r *api.Rule) { r.Seconds = []int{60} }, api.ErrRange},
		{func(r *api.Rule) { r.Months = slices.Repeat([]int{1}, 64) }, api.OK}, {func(r *api.Rule) { r.Months = slices.Repeat([]int{99}, 65) }, api.ErrLong}, {func(r *api.Rule) { r.Hours = slices.Repeat([]int{1}, 65) }, api.ErrLong},
		{func(r *api.Rule) { r.Minutes = slices.Repeat([]int{1}, 65) }, api.ErrLong}, {func(r *api.Rule) { r.Seconds = slices.Repeat([]int{99}, 65) }, api.ErrLong}, {func(r *api.Rule) { r.Seconds, r.Hours = slices.Repeat([]int{1}, 65), []int{24} }, api.ErrRange},
	} {
		if e := Check(with(c.change)); e != c.e {
			t.Errorf("rule %d: %v, want %v", i, e, c.e)
		}
	}
}

func TestCheckDaysWeek(t *testing.T) { // 32.1
	for i, c := range []struct {
		freq   int
		months []int
		days   []int
		week   []api.Nth
		e      api.Errno
	}{
		{api.Day, nil, []int{1, 31}, nil, api.OK}, {api.Second, nil, []int{-1, -31, -1}, nil, api.OK}, {api.Day, nil, []int{0}, nil, api.ErrRange}, {api.Day, nil, []int{32}, nil, api.ErrRange}, {api.Day, nil, []int{-32}, nil, api.ErrRange},
		{api.Day, nil, []int{1, -1}, nil, api.ErrMix}, {api.Day, nil, []int{1, -1, 0}, nil, api.ErrRange}, {api.Week, nil, []int{1}, nil, api.ErrMix}, {api.Week, nil, []int{40}, nil, api.ErrRange}, {api.Year, nil, slices.Repeat([]int{0}, 65), nil, api.ErrLong},
		{api.Week, nil, slices.Repeat([]int{1}, 64), nil, api.ErrMix}, {api.Month, nil, slices.Repeat([]int{1}, 64), nil, api.OK},
		{api.Day, nil, nil, nth(0, 1, 0, 7, 0, 1), api.OK}, {api.Day, nil, nil, nth(0, 0), api.ErrRange}, {api.Day, nil, nil, nth(0, 8), api.ErrRange}, {api.Month, nil, nil, nth(5, 1, 1, 7), api.OK}, {api.Month, nil, nil, nth(-5, 1, -1, 7), api.OK},
		{api.Month, nil, nil, nth(6, 1), api.ErrRange}, {api.Month, nil, nil, nth(-6, 1), api.ErrRange}, {api.Year, []int{3}, nil, nth(6, 1), api.ErrRange}, {api.Year, []int{3}, nil, nth(-5, 1), api.OK}, {api.Year, nil, nil, nth(53, 1), api.OK}, {api.Year, nil, nil, nth(-53, 1), api.OK},
		{api.Year, nil, nil, nth(54, 1), api.ErrRange}, {api.Year, nil, nil, nth(-54, 1), api.ErrRange}, {api.Week, nil, nil, nth(1, 1), api.ErrMix}, {api.Day, nil, nil, nth(1, 1), api.ErrMix}, {api.Hour, nil, nil, nth(-1, 1), api.ErrMix},
		{api.Month, nil, nil, nth(1, 1, 0, 2), api.ErrMix}, {api.Month, nil, nil, nth(1, 1, -1, 2), api.ErrMix}, {api.Month, nil, nil, nth(1, 1, -1, 9), api.ErrRange}, {api.Month, nil, nil, nth(6, 1, -1, 2), api.ErrMix}, {api.Day, nil, nil, nth(1, 1, 54, 2), api.ErrRange},
		{api.Day, nil, nil, slices.Repeat(nth(99, 99), 65), api.ErrLong}, {api.Day, nil, nil, slices.Repeat(nth(0, 1), 64), api.OK}, {api.Week, nil, []int{1}, nth(0, 9), api.ErrMix},
		{api.Month, nil, nil, nth(math.MinInt, 1), api.ErrRange}, {api.Month, nil, []int{math.MinInt}, nil, api.ErrRange},
	} {
		r := with(func(r *api.Rule) { r.Freq, r.Months, r.Days, r.Week = c.freq, c.months, c.days, c.week })
		if e := Check(r); e != c.e {
			t.Errorf("rule %d: %v, want %v", i, e, c.e)
		}
	}
}

func TestPlainSame(t *testing.T) { // 32.1
	if !Plain(api.Rule{}) || !Plain(api.Rule{Week: nth(0, 1, 0, 9)}) || Plain(api.Rule{Week: nth(0, 1, -1, 2)}) {
		t.Error("Plain")
	}
	full := func() api.Rule {
		return api.Rule{Start: 1, Freq: 2, Interval: 3, Count: 4, Until: 5, Months: []int{1}, Days: []int{2}, Week: nth(0, 3), Hours: []int{4}, Minutes: []int{5}, Seconds: []int{6}}
	}
	if !Same(full(), full()) || !Same(api.Rule{}, api.Rule{Days: []int{}, Week: []api.Nth{}}) {
		t.Error("the same")
	}
	for i, change := range []func(r *api.Rule){
		func(r *api.Rule) { r.Start++ }, func(r *api.Rule) { r.Freq++ }, func(r *api.Rule) { r.Interval++ }, func(r *api.Rule) { r.Count++ }, func(r *api.Rule) { r.Until++ },
		func(r *api.Rule) { r.Months = nil }, func(r *api.Rule) { r.Days = []int{-2} }, func(r *api.Rule) { r.Week = nth(1, 3) }, func(r *api.Rule) { r.Week = nth(0, 3, 0, 3) }, func(r *api.Rule) { r.Week = nil },
		func(r *api.Rule) { r.Hours = []int{5} }, func(r *api.Rule) { r.Minutes = nil }, func(r *api.Rule) { r.Seconds = []int{6, 6} },
	} {
		r := full()
		change(&r)
		if Same(r, full()) || Same(full(), r) {
			t.Errorf("change %d", i)
		}
	}
}

func TestMonthsDays(t *testing.T) { // 32.2
	full := clause.Full()
	for i, c := range []struct {
		freq             int
		months, days     []int
		week             []api.Nth
		month, dom, ends uint64
	}{
		{api.Day, nil, nil, nil, full.Month, full.Dom, full.End}, {api.Week, nil, nil, nil, full.Month, full.Dom, full.End}, {api.Month, nil, nil, nil, full.Month, 1 << 10, full.End}, {api.Year, nil, nil, nil, 1 << 2, 1 << 10, full.End},
		{api.Year, nil, []int{5}, nil, full.Month, 1 << 5, full.End}, {api.Year, nil, nil, nth(0, 1), full.Month, full.Dom, full.End}, {api.Month, nil, nil, nth(2, 1), full.Month, full.Dom, full.End}, {api.Year, []int{3, 4}, nil, nil, mask.Of(3, 4), 1 << 10, full.End},
		{api.Day, []int{7}, []int{-1, -31}, nil, 1 << 7, full.Dom, mask.Of(1, 31)}, {api.Second, nil, []int{3, 31}, nil, full.Month, mask.Of(3, 31), full.End}, {api.Month, nil, []int{-2}, nth(0, 3), full.Month, full.Dom, 1 << 2},
	} {
		r := with(func(r *api.Rule) { r.Freq, r.Months, r.Days, r.Week = c.freq, c.months, c.days, c.week })
		dom, end := Days(r)
		if Months(r) != c.month || dom != c.dom || end != c.ends {
			t.Errorf("rule %d: %b, %b, %b", i, Months(r), dom, end)
		}
	}
}

func TestWeekTimes(t *testing.T) { // 32.2
	full := clause.Full()
	ord := func(in int, back bool, day int, ns ...int) api.Ord {
		o := api.Ord{In: in, Back: back}
		o.Days[day] = mask.Of(ns...)
		return o
	}
	for i, c := range []struct {
		freq   int
		months []int
		week   []api.Nth
		want   uint64
		ord    api.Ord
	}{
		{api.Day, nil, nil, full.Week, api.Ord{}}, {api.Week, nil, nil, 1 << 2, api.Ord{}}, {api.Week, nil, nth(0, 1, 0, 5), mask.Of(1, 5), api.Ord{}}, {api.Year, nil, nth(0, 7), 1 << 7, api.Ord{}},
		{api.Month, nil, nth(1, 3, 2, 3), full.Week, ord(1, false, 3, 1, 2)}, {api.Month, nil, nth(-1, 5), full.Week, ord(1, true, 5, 1)}, {api.Year, []int{3}, nth(-1, 5), full.Week, ord(1, true, 5, 1)}, {api.Year, nil, nth(53, 1, 7, 1), full.Week, ord(2, false, 1, 7, 53)}, {api.Year, nil, nth(-53, 1), full.Week, ord(2, true, 1, 53)},
	} {
		r := with(func(r *api.Rule) { r.Freq, r.Months, r.Week = c.freq, c.months, c.week })
		if m, o := Week(r); m != c.want || o != c.ord {
			t.Errorf("rule %d: %b, %+v", i, m, o)
		}
	}
	for freq := range api.Units {
		h, m, s := Times(with(func(r *api.Rule) { r.Freq = freq }))
		wh, wm, ws := full.Hour, full.Minute, full.Second
		if freq >= api.Day {
			wh = 1 << 5
		}
		if freq >= api.Hour {
			wm = 1 << 6
		}
		if freq >= api.Minute {
			ws = 1 << 7
		}
		if h != wh || m != wm || s != ws {
			t.Errorf("times of %d: %b, %b, %b", freq, h, m, s)
		}
		if h, m, s := Times(with(func(r *api.Rule) { r.Freq, r.Hours, r.Minutes, r.Seconds = freq, []int{1, 2}, []int{3}, []int{59} })); h != mask.Of(1, 2) || m != 1<<3 || s != 1<<59 {
			t.Errorf("times of %d: %b, %b, %b", freq, h, m, s)
		}
	}
}

func TestOfWhatMayNotBe(t *testing.T) { // 32.2
	r := with(func(r *api.Rule) { r.Interval = 0 })
	dom, end := Days(r)
	w, o := Week(r)
	h, m, s := Times(r)
	if Months(r) != 0 || dom != 0 || end != 0 || w != 0 || o != (api.Ord{}) || h != 0 || m != 0 || s != 0 {
		t.Error("a rule that may not be")
	}
}

func TestWays(t *testing.T) { // section Ways: Check looks for what is wrong by functions that are fields
	file, err := parser.ParseFile(token.NewFileSet(), "rule.go", nil, 0)
	if err != nil {
		t.Fatal(err)
	}
	keeps := map[string]bool{} // structs with a field that is a function, by their names
	var check *ast.FuncDecl
	ast.Inspect(file, func(n ast.Node) bool {
		switch x := n.(type) {
		case *ast.FuncDecl:
			if x.Name.Name == "Check" {
				check = x
			}
		case *ast.TypeSpec:
			if st, ok := x.Type.(*ast.StructType); ok {
				keeps[x.Name.Name] = slices.ContainsFunc(st.Fields.List, func(f *ast.Field) bool { _, ok := f.Type.(*ast.FuncType); return ok })
			}
		}
		return true
	})
	if check == nil {
		t.Fatal("no Check")
	}
	used := false
	ast.Inspect(check, func(n ast.Node) bool {
		if l, ok := n.(*ast.ArrayType); ok {
			id, ok := l.Elt.(*ast.Ident)
			used = used || ok && keeps[id.Name]
		}
		return true
	})
	if !used {
		t.Error("Check has no list of structs with a field that is a function")
	}
}
