package plan

import (
	"reflect"
	"slices"
	"strings"
	"testing"

	"feria/api"
	"feria/cal"
	"feria/callow"
	"feria/cron"
	"feria/cronlow"
	"feria/ir"
	"feria/rule"
	"feria/rulelow"
)

const weekly = "DTSTART:19700105T090000Z\nRRULE:FREQ=WEEKLY;BYDAY=MO,TU"

// texts are texts as they are shown, by the languages.
var texts = []string{"0 9 * * 1-5", "Mon..Fri *-*-* 09:00:00", weekly}

func TestReadShowCheckLower(t *testing.T) { // 40.1, 40.3
	for lang, s := range texts {
		p, n, e := Read(lang, s)
		if p.Lang != lang || n != len(s) || e != api.OK || Check(p) != api.OK {
			t.Fatalf("Read(%d, %q) = %+v, %d, %v", lang, s, p, n, e)
		}
		if shown, e := Show(p); shown != s || e != api.OK {
			t.Errorf("Show: %q, %v", shown, e)
		}
		var want []api.Clause
		switch lang {
		case api.LangCron:
			want, _ = cronlow.Lower(p.Cron)
		case api.LangCal:
			want, _ = callow.Lower(p.Cal)
		case api.LangRule:
			want, _ = rulelow.Lower(p.Rule)
		}
		if set, e := Lower(p); !slices.Equal(set, want) || e != api.OK {
			t.Errorf("Lower: %v", e)
		}
		only := api.Plan{Lang: lang, Cron: p.Cron, Cal: p.Cal, Rule: p.Rule}
		if !reflect.DeepEqual(p, only) || lang != 0 && !cron.Same(p.Cron, api.Cron{}) || lang != 1 && !cal.Same(p.Cal, api.Cal{}) || lang != 2 && !rule.Same(p.Rule, api.Rule{}) {
			t.Errorf("the others aren't zero: %+v", p)
		}
	}
	for _, c := range []struct {
		lang int
		s    string
		at   int
		e    api.Errno
	}{{0, "60 * * * *", 0, api.ErrRange}, {1, "12:00 UTC", 6, api.ErrZone}, {2, weekly + ";BYSETPOS=1", len(weekly) + 1, api.ErrPart}, {3, "* * * * *", 0, api.ErrArg}, {-1, "", 0, api.ErrArg}} {
		if p, at, e := Read(c.lang, c.s); !reflect.DeepEqual(p, api.Plan{}) || at != c.at || e != c.e {
			t.Errorf("Read(%d, %q) = %+v, %d, %v", c.lang, c.s, p, at, e)
		}
	}
}

func TestWrong(t *testing.T) { // 40.1
	for _, c := range []struct {
		p api.Plan
		e api.Errno
	}{
		{api.Plan{Lang: 3}, api.ErrArg}, {api.Plan{Lang: -1}, api.ErrArg}, {api.Plan{Lang: api.LangCron}, api.ErrLack}, {api.Plan{Lang: api.LangCal}, api.ErrLack}, {api.Plan{Lang: api.LangRule}, api.ErrRange},
		{api.Plan{Lang: api.LangRule, Rule: api.Rule{Freq: api.Week, Interval: 1, Until: -1, Days: []int{1}}}, api.ErrMix},
	} {
		if e := Check(c.p); e != c.e {
			t.Errorf("Check(%+v): %v", c.p, e)
		}
		if s, e := Show(c.p); s != "" || e != c.e {
			t.Errorf("Show(%+v): %v", c.p, e)
		}
		if s, e := Lower(c.p); s != nil || e != c.e {
			t.Errorf("Lower(%+v): %v", c.p, e)
		}
		if p, e := Canon(c.p); !reflect.DeepEqual(p, api.Plan{}) || e != c.e {
			t.Errorf("Canon(%+v): %v", c.p, e)
		}
	}
	large := api.Plan{Lang: api.LangRule, Rule: api.Rule{Freq: api.Day, Interval: 1e15, Until: -1}}
	if s, e := Lower(large); s != nil || e != api.ErrLarge || Check(large) != api.OK {
		t.Errorf("Lower: %v", e)
	}
	for lang, want := range []api.Errno{api.ErrNone, api.ErrNone, api.ErrNone, api.ErrArg} {
		set := ir.Whole()
		set[0].Dom, set[0].Week, set[0].Or, set[0].Second, set[0].Years[0] = 1<<13, 1<<5, true, 2, 5
		if p, e := Raise(lang, set); !reflect.DeepEqual(p, api.Plan{}) || e != want {
			t.Errorf("Raise(%d): %v", lang, e)
		}
	}
	if _, e := Raise(0, []api.Clause{{}}); e != api.ErrArg {
		t.Errorf("Raise: %v", e)
	}
	if _, e := Raise(2, slices.Repeat(ir.Whole(), 9)); e != api.ErrLong {
		t.Errorf("Raise: %v", e)
	}
}

func TestCanonRaise(t *testing.T) { // 40.1
	for lang, c := range [][2]string{{"00 9 * * mon-fri", texts[0]}, {"fri,mon..thu 9:00", texts[1]}, {"DTSTART:19700105T090000Z\nRRULE:FREQ=WEEKLY;BYHOUR=9;BYDAY=TU,MO", "DTSTART:19700105T090000Z\nRRULE:FREQ=DAILY;BYDAY=MO,TU"}} {
		p, _, _ := Read(lang, c[0])
		q, e := Canon(p)
		if s, _ := Show(q); s != c[1] || e != api.OK {
			t.Errorf("Canon of %q: %q, %v", c[0], s, e)
		}
		set, _ := Lower(p)
		raised, e := Raise(lang, set)
		if !Same(raised, q) || e != api.OK || raised.Lang != lang {
			t.Errorf("Raise of %q: %+v, %v", c[0], raised, e)
		}
	}
}

func TestSame(t *testing.T) { // 40.1
	var ps []api.Plan
	for lang, s := range texts {
		p, _, _ := Read(lang, s)
		ps = append(ps, p)
	}
	for i, a := range ps {
		for j, b := range ps {
			if Same(a, b) != (i == j) {
				t.Errorf("Same of %d and %d", i, j)
			}
		}
	}
	a, b := ps[0], ps[0]
	b.Cal, b.Rule = ps[1].Cal, ps[2].Rule
	if !Same(a, b) {
		t.Error("what plays no part")
	}
	b.Cron.Hour = nil
	if Same(a, b) || Same(api.Plan{Lang: 3}, api.Plan{Lang: 3}) || Same(api.Plan{Lang: -1}, api.Plan{Lang: -1}) || !Same(api.Plan{}, api.Plan{}) {
		t.Error("Same")
	}
}

func TestNamesGuess(t *testing.T) { // 40.1, 40.2
	for lang, n := range []string{"cron", "cal", "rule"} {
		if Name(lang) != n {
			t.Errorf("Name(%d)", lang)
		}
		if got, ok := Of(n); got != lang || !ok {
			t.Errorf("Of(%q)", n)
		}
	}
	if Name(3) != "" || Name(-1) != "" {
		t.Error("names of others")
	}
	for _, n := range []string{"", "Cron", "rules"} {
		if got, ok := Of(n); got != 0 || ok {
			t.Errorf("Of(%q)", n)
		}
	}
	for s, lang := range map[string]int{"daily": api.LangCal, "0 0 * * *": api.LangCron, weekly: api.LangRule, "Mon": api.LangCal} {
		p, e := Guess(s)
		q, _, _ := Read(lang, s)
		if p.Lang != lang || e != api.OK || !Same(p, q) {
			t.Errorf("Guess(%q) = %+v, %v", s, p, e)
		}
	}
	for _, s := range []string{"", "x", "@daily", strings.Repeat(" ", 9000), weekly + ";X=1"} {
		if p, e := Guess(s); !reflect.DeepEqual(p, api.Plan{}) || e != api.ErrForm {
			t.Errorf("Guess(%.20q) = %+v, %v", s, p, e)
		}
	}
}
