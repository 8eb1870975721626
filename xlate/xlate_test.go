package xlate

import (
	"math"
	"reflect"
	"testing"

	"feria/api"
	"feria/plan"
)

const head = "DTSTART:19700105T090000Z\nRRULE:FREQ="

func read(t *testing.T, s string) api.Plan {
	t.Helper()
	p, e := plan.Guess(s)
	if e != api.OK {
		t.Fatalf("%q: %v", s, e)
	}
	return p
}

var (
	huge = api.Plan{Lang: api.LangRule, Rule: api.Rule{Freq: api.Day, Interval: 1e15, Until: -1}}
	lack = api.Plan{Lang: api.LangCron}
	none = api.Plan{Lang: 5}
)

func TestTranslateText(t *testing.T) { // 41.1
	for _, c := range []struct {
		s        string
		from, to int
		want     string
		e        api.Errno
	}{
		{"0 9 * * 1-5", 0, 1, "Mon..Fri *-*-* 09:00:00", api.OK}, {"0 9 * * 1-5", 0, 2, "DTSTART:19700101T090000Z\nRRULE:FREQ=DAILY;BYDAY=MO,TU,WE,TH,FR", api.OK}, {"0 0 13 * 5", 0, 1, "", api.ErrNone}, {"0 0 13 * 5", 0, 2, "", api.ErrNone}, {"0 0 13 * 5", 0, 0, "0 0 13 * 5", api.OK},
		{"0 0 */2 * 5", 0, 1, "Fri *-*-01..31/2 00:00:00", api.OK}, {"*-02~01", 1, 2, "DTSTART:19700228T000000Z\nRRULE:FREQ=DAILY;BYMONTH=2;BYMONTHDAY=-1", api.OK}, {"*-02~01", 1, 0, "", api.ErrNone},
		{"0 0 30 2 *", 0, 1, "*-02-30 00:00:00", api.OK}, {"*-02-30", 1, 2, "DTSTART:19700101T000000Z\nRRULE:FREQ=YEARLY;BYMONTH=2;BYMONTHDAY=30", api.OK}, {head + "DAILY", 2, 0, "", api.ErrNone}, {"DTSTART:19700101T090000Z\nRRULE:FREQ=DAILY", 2, 0, "0 9 * * *", api.OK},
		{"60 * * * *", 0, 1, "", api.ErrRange}, {"@reboot", 0, 1, "", api.ErrNick}, {"12:00 UTC", 1, 0, "", api.ErrZone}, {"* * * * *", 3, 0, "", api.ErrArg}, {"* * * * *", 0, 3, "", api.ErrArg}, {"* * * * *", 0, -1, "", api.ErrArg}, {"x", 0, 9, "", api.ErrForm}, {head + "DAILY;INTERVAL=999999999999999", 2, 9, "", api.ErrLarge},
	} {
		if s, e := Text(c.s, c.from, c.to); s != c.want || e != c.e {
			t.Errorf("Text(%q, %d, %d) = %q, %v", c.s, c.from, c.to, s, e)
		}
	}
	for _, c := range []struct {
		p    api.Plan
		lang int
		e    api.Errno
	}{{huge, 0, api.ErrLarge}, {lack, 9, api.ErrLack}, {none, 0, api.ErrArg}, {read(t, "daily"), 3, api.ErrArg}, {read(t, "Mon 2000-*-*"), 0, api.ErrNone}} {
		if q, e := Translate(c.p, c.lang); !reflect.DeepEqual(q, api.Plan{}) || e != c.e {
			t.Errorf("Translate(%+v, %d): %v", c.p, c.lang, e)
		}
	}
}

func TestDecide(t *testing.T) { // 41.2
	for _, c := range []struct {
		a, b          string
		equal, subset api.Verdict
	}{
		{"0 0 * * *", "daily", api.Verdict{Yes: true}, api.Verdict{Yes: true}},
		{"0 0 30 2 *", "*-02-30 00:00:00", api.Verdict{Yes: true}, api.Verdict{Yes: true}},
		{"0 0 * * *", "0 0 * * 1-6", api.Verdict{At: 259200, First: true}, api.Verdict{At: 259200, First: true}},
		{"0 0 * * 1-6", "0 0 * * *", api.Verdict{At: 259200}, api.Verdict{Yes: true}},
		{head + "WEEKLY;INTERVAL=2", head + "DAILY;INTERVAL=4", api.Verdict{At: (4+4)*86400 + 9*3600}, api.Verdict{At: (4+14)*86400 + 9*3600, First: true}},
	} {
		a, b := read(t, c.a), read(t, c.b)
		if v, e := Equal(a, b); v != c.equal || e != api.OK {
			t.Errorf("Equal(%q, %q): %+v, %v", c.a, c.b, v, e)
		}
		if v, e := Subset(a, b); v != c.subset || e != api.OK {
			t.Errorf("Subset(%q, %q): %+v, %v", c.a, c.b, v, e)
		}
	}
	if v, e := Empty(read(t, "0 0 30 2 *")); v != (api.Verdict{Yes: true}) || e != api.OK {
		t.Errorf("Empty: %+v, %v", v, e)
	}
	if v, e := Empty(read(t, head+"DAILY")); v != (api.Verdict{At: 4*86400 + 9*3600, First: true}) || e != api.OK {
		t.Errorf("Empty: %+v, %v", v, e)
	}
	daily := read(t, "daily")
	for _, c := range []struct {
		a, b api.Plan
		e    api.Errno
	}{{huge, lack, api.ErrLarge}, {lack, huge, api.ErrLack}, {daily, huge, api.ErrLarge}, {none, lack, api.ErrArg}, {daily, none, api.ErrArg}} {
		if v, e := Equal(c.a, c.b); v != (api.Verdict{}) || e != c.e {
			t.Errorf("Equal: %v, want %v", e, c.e)
		}
		if v, e := Subset(c.a, c.b); v != (api.Verdict{}) || e != c.e {
			t.Errorf("Subset: %v, want %v", e, c.e)
		}
	}
	if v, e := Empty(lack); v != (api.Verdict{}) || e != api.ErrLack {
		t.Errorf("Empty: %v", e)
	}
}

func TestNext(t *testing.T) { // 41.3
	for _, c := range []struct {
		p    api.Plan
		t    int64
		want int64
		e    api.Errno
	}{
		{read(t, "0 9 * * 1-5"), 0, 32400, api.OK}, {read(t, "0 9 * * 1-5"), 32400, 32400 + 86400, api.OK}, {read(t, "daily"), -1, 0, api.OK}, {read(t, "daily"), math.MinInt64, 0, api.OK},
		{read(t, "daily"), api.End - 1, 0, api.ErrNone}, {read(t, "*-02-30"), 0, 0, api.ErrNone}, {huge, 0, 0, api.ErrLarge}, {lack, 0, 0, api.ErrLack}, {none, 0, 0, api.ErrArg},
	} {
		if x, e := Next(c.p, c.t); x != c.want || e != c.e {
			t.Errorf("Next(%+v, %d) = %d, %v", c.p, c.t, x, e)
		}
	}
}

func TestWhatFollows(t *testing.T) { // 41.4
	for _, s := range []string{
		"0 9 * * 1-5", "0 0 13 * 5", "*/7 3 */2 2,4 *", "0 0 30 2 *", "daily", "Mon,Wed *-*-* 9..17/2:00", "*-02~01", "2000..2010/5-*-13 1:2:3", "*-*~1/2",
		head + "DAILY;COUNT=3", head + "WEEKLY;INTERVAL=2;BYDAY=MO,TU", head + "MONTHLY;BYDAY=-1FR,-2TH", head + "YEARLY;BYDAY=20MO", head + "HOURLY;INTERVAL=5", head + "DAILY;BYMONTH=2;BYMONTHDAY=30", "DTSTART:19700101T000000Z\nRRULE:FREQ=HOURLY;INTERVAL=6",
	} {
		p := read(t, s)
		own, e := Translate(p, p.Lang)
		if e != api.OK {
			t.Fatalf("%q in its own language: %v", s, e)
		}
		if canon, _ := plan.Canon(p); !plan.Same(canon, own) {
			t.Errorf("%q: what is found isn't what stands for it", s)
		}
		for lang := range api.Langs {
			q, e := Translate(p, lang)
			if e == api.ErrNone {
				continue
			}
			if v, wrong := Equal(p, q); !v.Yes || wrong != api.OK || e != api.OK || q.Lang != lang {
				t.Errorf("%q to %d: %+v, %v", s, lang, v, e)
			}
			back, e := Translate(q, p.Lang)
			if e != api.OK || !plan.Same(back, own) {
				t.Errorf("%q to %d, and back: %+v, %v", s, lang, back, e)
			}
		}
	}
}
