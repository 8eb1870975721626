package canon

import (
	"slices"
	"testing"

	"feria/api"
	"feria/cal"
	"feria/callow"
	"feria/calread"
	"feria/calshow"
	"feria/cron"
	"feria/cronlow"
	"feria/cronread"
	"feria/cronshow"
	"feria/meet"
	"feria/rule"
	"feria/rulelow"
	"feria/ruleread"
	"feria/ruleshow"
)

const head = "DTSTART:19700105T090000Z\nRRULE:FREQ="

func line(t *testing.T, s string) api.Cron {
	t.Helper()
	c, _, e := cronread.Read(s)
	if e != api.OK {
		t.Fatalf("%q: %v", s, e)
	}
	return c
}

func event(t *testing.T, s string) api.Cal {
	t.Helper()
	c, _, e := calread.Read(s)
	if e != api.OK {
		t.Fatalf("%q: %v", s, e)
	}
	return c
}

func recurring(t *testing.T, s string) api.Rule {
	t.Helper()
	r, _, e := ruleread.Read(head + s)
	if e != api.OK {
		t.Fatalf("%q: %v", s, e)
	}
	return r
}

func TestCron(t *testing.T) { // 39.1, 39.3
	for s, want := range map[string]string{"0-59 */1 1-31 1-12 0-7": "* * * * *", "0 0 13 * 5": "0 0 13 * 5", "5 5 30 2 *": "0 0 30 2 *", "00 9 * JAN-DEC mon-fri": "0 9 * * 1-5"} {
		c, e := Cron(line(t, s))
		if text, _ := cronshow.Show(c); text != want || e != api.OK {
			t.Errorf("Cron of %q: %q, %v", s, text, e)
		}
		if again, e := Cron(c); e != api.OK || !cron.Same(again, c) {
			t.Errorf("what stands for %q doesn't stand for itself", s)
		}
		a, _ := cronlow.Lower(c)
		b, _ := cronlow.Lower(line(t, s))
		if v, _ := meet.Equal(a, b); !v.Yes {
			t.Errorf("what stands for %q means something else", s)
		}
	}
	bad := line(t, "* * * * *")
	bad.Hour = nil
	if c, e := Cron(bad); !cron.Same(c, api.Cron{}) || e != api.ErrLack {
		t.Errorf("Cron: %v", e)
	}
}

func TestCal(t *testing.T) { // 39.1, 39.3
	for s, want := range map[string]string{"yearly": "*-01-01 00:00:00", "*-12~1,31": "*-12-01,31 00:00:00", "Mon..Sun *:*:*": "*-*-* *:*:*", "*-02-30,31 5:5": "*-02-30 00:00:00", "*-2~1": "*-02~01 00:00:00"} {
		c, e := Cal(event(t, s))
		if text, _ := calshow.Show(c); text != want || e != api.OK {
			t.Errorf("Cal of %q: %q, %v", s, text, e)
		}
		if again, e := Cal(c); e != api.OK || !cal.Same(again, c) {
			t.Errorf("what stands for %q doesn't stand for itself", s)
		}
		a, _ := callow.Lower(c)
		b, _ := callow.Lower(event(t, s))
		if v, _ := meet.Equal(a, b); !v.Yes {
			t.Errorf("what stands for %q means something else", s)
		}
	}
	bad := event(t, "daily")
	bad.Month = slices.Repeat(bad.Month, 65)
	if c, e := Cal(bad); !cal.Same(c, api.Cal{}) || e != api.ErrLong {
		t.Errorf("Cal: %v", e)
	}
}

func TestRule(t *testing.T) { // 39.1, 39.3
	for s, want := range map[string]string{"DAILY;COUNT=3": "DAILY;UNTIL=19700107T090000Z", "WEEKLY;BYDAY=MO,FR;WKST=MO": "DAILY;BYDAY=MO,FR", "DAILY;UNTIL=19700107T080000Z": "DAILY;UNTIL=19700106T090000Z", "HOURLY;INTERVAL=48": "DAILY;INTERVAL=2"} {
		r, e := Rule(recurring(t, s))
		if text, _ := ruleshow.Show(r); text != head+want || e != api.OK {
			t.Errorf("Rule of %q: %q, %v", s, text, e)
		}
		if again, e := Rule(r); e != api.OK || !rule.Same(again, r) {
			t.Errorf("what stands for %q doesn't stand for itself", s)
		}
		a, _ := rulelow.Lower(r)
		b, _ := rulelow.Lower(recurring(t, s))
		if v, _ := meet.Equal(a, b); !v.Yes {
			t.Errorf("what stands for %q means something else", s)
		}
	}
	bad := recurring(t, "DAILY")
	bad.Interval = api.MaxInterval + 1
	if r, e := Rule(bad); !rule.Same(r, api.Rule{}) || e != api.ErrLarge {
		t.Errorf("Rule: %v", e)
	}
	bad.Interval = 0
	if r, e := Rule(bad); !rule.Same(r, api.Rule{}) || e != api.ErrRange {
		t.Errorf("Rule: %v", e)
	}
}

func TestIs(t *testing.T) { // 39.2
	for i, c := range []struct {
		p    api.Plan
		want bool
		e    api.Errno
	}{
		{api.Plan{Lang: api.LangCron, Cron: line(t, "* * * * *")}, true, api.OK}, {api.Plan{Lang: api.LangCron, Cron: line(t, "*/1 * * * 0-7")}, false, api.OK}, {api.Plan{Lang: api.LangCron}, false, api.ErrLack},
		{api.Plan{Lang: api.LangCal, Cal: event(t, "daily")}, true, api.OK}, {api.Plan{Lang: api.LangCal, Cal: event(t, "*-*~*")}, false, api.OK}, {api.Plan{Lang: api.LangCal, Cron: line(t, "* * * * *")}, false, api.ErrLack},
		{api.Plan{Lang: api.LangRule, Rule: recurring(t, "DAILY")}, true, api.OK}, {api.Plan{Lang: api.LangRule, Rule: recurring(t, "DAILY;COUNT=1")}, false, api.OK}, {api.Plan{Lang: api.LangRule, Rule: api.Rule{Freq: 3, Interval: 1e15, Until: -1}}, false, api.ErrLarge},
		{api.Plan{Lang: 3, Cron: line(t, "* * * * *")}, false, api.ErrArg}, {api.Plan{Lang: -1}, false, api.ErrArg},
	} {
		if ok, e := Is(c.p); ok != c.want || e != c.e {
			t.Errorf("plan %d: %v, %v", i, ok, e)
		}
	}
}
