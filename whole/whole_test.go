package whole

import (
	"math/rand"
	"strings"
	"testing"

	"feria/api"
	"feria/cal"
	"feria/canon"
	"feria/cron"
	"feria/deno"
	"feria/ir"
	"feria/meet"
	"feria/plan"
	"feria/seek"
	"feria/xlate"
)

const head = "DTSTART:19700105T090000Z\nRRULE:FREQ="

// texts are schedules of all languages.
var texts = []string{
	"* * * * *", "0 9 * * 1-5", "0 0 13 * 5", "0 0 */2 * 5", "*/15 9-17 1,15 2-11/3 *", "0 0 30 2 *", "5 5 31 4,6 *", "0-59 */1 1-31 1-12 0-7", "30 4 29 2 sun",
	"daily", "minutely", "quarterly", "Mon..Fri 9:30", "*-02~01", "Sat,Sun 1970..2369/4-*-01..07 0..23/6:00:00,30", "*-02-30", "2000-02-29 12:00", "*-*~1/2", "*-*~31 0:0",
	head + "DAILY;COUNT=3", head + "WEEKLY;INTERVAL=2;BYDAY=MO,TU", head + "WEEKLY;INTERVAL=4", head + "DAILY;INTERVAL=4", head + "MONTHLY;BYDAY=-1FR,-2TH", head + "MONTHLY;BYMONTHDAY=-1", head + "YEARLY;BYDAY=20MO", head + "YEARLY;BYMONTH=3;BYDAY=-1FR", head + "HOURLY;INTERVAL=5;BYMINUTE=0,30",
	head + "MINUTELY;INTERVAL=1000", head + "SECONDLY;INTERVAL=7;UNTIL=19700105T100000Z", head + "DAILY;BYMONTH=2;BYMONTHDAY=30", "DTSTART:19700101T000000Z\nRRULE:FREQ=DAILY", head + "YEARLY;COUNT=1", head + "DAILY;UNTIL=19700101T000000Z",
}

// nothing are schedules that mean nothing.
var nothing = []string{"0 0 30 2 *", "5 5 31 4,6 *", "*-02-30", head + "DAILY;BYMONTH=2;BYMONTHDAY=30", head + "DAILY;UNTIL=19700101T000000Z"}

func read(t *testing.T, s string) api.Plan {
	t.Helper()
	p, e := plan.Guess(s)
	if e != api.OK {
		t.Fatalf("%q: %v", s, e)
	}
	return p
}

// shown is a plan's text.
func shown(p api.Plan) string {
	s, e := plan.Show(p)
	if e != api.OK {
		return e.Error()
	}
	return s
}

func TestReadWrittenStandsFor(t *testing.T) { // P3, 0.1
	for _, s := range texts {
		p := read(t, s)
		again, _, e := plan.Read(p.Lang, shown(p))
		if e != api.OK || !plan.Same(p, again) {
			t.Errorf("%q is written %q", s, shown(p))
		}
		c, e := plan.Canon(p)
		if e != api.OK {
			t.Fatalf("%q: %v", s, e)
		}
		again, _, e = plan.Read(c.Lang, shown(c))
		if e != api.OK || !plan.Same(c, again) {
			t.Errorf("what stands for %q is written %q", s, shown(c))
		}
		if ok, e := canon.Is(c); !ok || e != api.OK {
			t.Errorf("what stands for %q, %q, doesn't stand for itself", s, shown(c))
		}
	}
}

func TestMeantByTheWords(t *testing.T) { // P3, 0.2
	r := rand.New(rand.NewSource(2))
	for _, s := range texts {
		p := read(t, s)
		set, _ := plan.Lower(p)
		c, _ := plan.Canon(p)
		some, _ := seek.Some(set, r.Int63n(api.End), 20)
		first, _ := seek.Some(set, -1, 20)
		xs := []int64{0, api.End - 1}
		for _, x := range append(some, first...) {
			xs = append(xs, x-1, x, x+1, x+60, x+86400)
		}
		for range 100 {
			x := r.Int63n(api.End)
			xs = append(xs, x, x-x%86400)
		}
		for _, x := range xs {
			means, e := deno.Means(p, x)
			stands, wrong := deno.Means(c, x)
			if means != ir.Has(set, x) || stands != means || e != api.OK || wrong != api.OK {
				t.Fatalf("%q and %d: %v, %v, %v", s, x, means, stands, ir.Has(set, x))
			}
		}
	}
}

func TestThroughLanguages(t *testing.T) { // P3, 0.3
	told := 0
	for _, s := range texts {
		p := read(t, s)
		stands, _ := plan.Canon(p)
		var straight [api.Langs]api.Plan
		var none [api.Langs]api.Errno
		for lang := range api.Langs {
			straight[lang], none[lang] = xlate.Translate(p, lang)
		}
		for first := range api.Langs {
			q, e := straight[first], none[first]
			if e == api.ErrNone {
				continue
			}
			told++
			if v, _ := xlate.Equal(p, q); e != api.OK || !v.Yes {
				t.Errorf("%q to %d: %v", s, first, e)
			}
			for second := range api.Langs {
				x, e := xlate.Translate(q, second)
				if e != none[second] || !plan.Same(x, straight[second]) {
					t.Errorf("%q to %d by %d: %q, %v; straight %q, %v", s, second, first, shown(x), e, shown(straight[second]), none[second])
				}
			}
			back, e := xlate.Translate(q, p.Lang)
			if e != api.OK || !plan.Same(back, stands) {
				t.Errorf("%q to %d and back: %q, %v", s, first, shown(back), e)
			}
		}
	}
	if told < len(texts)+20 {
		t.Errorf("%d were told", told)
	}
}

func TestEqual(t *testing.T) { // P3, 0.4
	var ps, cs []api.Plan
	for _, s := range texts {
		p := read(t, s)
		c, _ := plan.Canon(p)
		ps, cs = append(ps, p), append(cs, c)
	}
	same := func(i, j int) bool {
		v, e := xlate.Equal(ps[i], ps[j])
		if e != api.OK {
			t.Fatal(e)
		}
		if !v.Yes {
			in, _ := deno.Means(ps[i], v.At)
			out, _ := deno.Means(ps[j], v.At)
			if in == out || in != v.First {
				t.Errorf("%q and %q: %+v is no witness", texts[i], texts[j], v)
			}
		}
		return v.Yes
	}
	equal := make([][]bool, len(ps))
	for i := range ps {
		for j := range ps {
			equal[i] = append(equal[i], same(i, j))
			if ps[i].Lang == ps[j].Lang && equal[i][j] != plan.Same(cs[i], cs[j]) {
				t.Errorf("%q and %q: equal: %v", texts[i], texts[j], equal[i][j])
			}
		}
	}
	for i := range ps {
		for j := range ps {
			for k := range ps {
				if equal[i][j] && equal[j][k] && !equal[i][k] || equal[i][j] != equal[j][i] || !equal[i][i] {
					t.Errorf("%q, %q, %q", texts[i], texts[j], texts[k])
				}
			}
		}
	}
}

func TestNextAndNothing(t *testing.T) { // P3, 0.5
	r := rand.New(rand.NewSource(5))
	for _, s := range texts {
		p := read(t, s)
		for range 5 {
			from := r.Int63n(9e8)
			x, e := xlate.Next(p, from)
			if e == api.ErrNone {
				continue
			}
			if ok, _ := deno.Means(p, x); !ok || x <= from {
				t.Fatalf("%q: next of %d: %d, %v", s, from, x, e)
			}
			for y := max(from+1, x-5000); y < x; y++ {
				if ok, _ := deno.Means(p, y); ok {
					t.Fatalf("%q: next of %d is %d ahead of %d", s, from, y, x)
				}
			}
		}
	}
	for _, s := range nothing {
		p := read(t, s)
		if x, e := xlate.Next(p, -1); x != 0 || e != api.ErrNone {
			t.Errorf("%q: next: %d, %v", s, x, e)
		}
		for lang := range api.Langs {
			q, e := xlate.Translate(p, lang)
			if v, _ := xlate.Empty(q); e != api.OK || !v.Yes {
				t.Errorf("%q to %d: %q, %v", s, lang, shown(q), e)
			}
		}
	}
}

func TestLeftOut(t *testing.T) { // P3, 0.6
	for _, c := range []struct {
		lang int
		s    string
		at   int
		e    api.Errno
	}{
		{api.LangCron, "@reboot", 0, api.ErrNick}, {api.LangCron, "@daily", 0, api.ErrNick}, {api.LangCron, "* * * * * *", 10, api.ErrForm}, {api.LangCron, "5/10 * * * *", 1, api.ErrForm}, {api.LangCron, "0 0 L * *", 4, api.ErrForm}, {api.LangCron, "0 0 * * 5#3", 9, api.ErrForm}, {api.LangCron, "0 0 ? * *", 4, api.ErrForm},
		{api.LangCal, "12:00 UTC", 6, api.ErrZone}, {api.LangCal, "*-*-* 9:00 Europe/Berlin", 11, api.ErrZone}, {api.LangCal, "0:0:0.5", 5, api.ErrSub}, {api.LangCal, "Mon..Sun/2", 8, api.ErrForm}, {api.LangCal, "Fri..Mon", 5, api.ErrRange}, {api.LangCal, "@0", 0, api.ErrForm},
		{api.LangRule, head + "DAILY;BYSETPOS=1", len(head) + 6, api.ErrPart}, {api.LangRule, head + "YEARLY;BYYEARDAY=1", len(head) + 7, api.ErrPart}, {api.LangRule, head + "YEARLY;BYWEEKNO=1", len(head) + 7, api.ErrPart}, {api.LangRule, head + "WEEKLY;WKST=SU", len(head) + 12, api.ErrPart}, {api.LangRule, "DTSTART;TZID=Europe/Berlin:19700105T090000\n", 7, api.ErrZone}, {api.LangRule, "DTSTART:19700105T090000\nRRULE:FREQ=DAILY", 23, api.ErrZone}, {api.LangRule, head + "DAILY\nEXDATE:19700105T090000Z", len(head) + 5, api.ErrForm},
	} {
		if p, at, e := plan.Read(c.lang, c.s); at != c.at || e != c.e || !plan.Same(p, api.Plan{}) || !cron.Same(p.Cron, api.Cron{}) || !cal.Same(p.Cal, api.Cal{}) {
			t.Errorf("%q: %d, %v", c.s, at, e)
		}
	}
}

func TestTenExamples(t *testing.T) {
	if s, e := xlate.Text("0 9 * * 1-5", api.LangCron, api.LangCal); s != "Mon..Fri *-*-* 09:00:00" || e != api.OK {
		t.Errorf("1: %q, %v", s, e)
	}
	if x, _ := xlate.Next(read(t, "0 9 * * 1-5"), 0); x != 32400 {
		t.Errorf("1: %d", x)
	}
	if s, e := xlate.Text("0 0 13 * 5", api.LangCron, api.LangCal); s != "" || e != api.ErrNone {
		t.Errorf("2: %q, %v", s, e)
	}
	fridays, odd := read(t, "0 0 */2 * 5"), read(t, "Fri *-*-1..31/2 0:0")
	if v, _ := xlate.Equal(fridays, odd); !v.Yes {
		t.Errorf("3: %+v", v)
	}
	if s, _ := xlate.Text("*-02~01", api.LangCal, api.LangRule); !strings.HasSuffix(s, "BYMONTH=2;BYMONTHDAY=-1") {
		t.Errorf("4: %q", s)
	}
	if v, _ := xlate.Equal(read(t, "0 0 30 2 *"), read(t, "*-02-30 00:00:00")); !v.Yes {
		t.Errorf("6: %+v", v)
	}
	second, fourth := read(t, head+"WEEKLY;INTERVAL=2"), read(t, head+"DAILY;INTERVAL=4")
	if v, _ := xlate.Equal(second, fourth); v != (api.Verdict{At: 8*86400 + 9*3600}) {
		t.Errorf("7: %+v", v)
	}
	three := read(t, "DTSTART:19700101T000000Z\nRRULE:FREQ=DAILY;COUNT=3")
	if c, _ := plan.Canon(three); shown(c) != "DTSTART:19700101T000000Z\nRRULE:FREQ=DAILY;UNTIL=19700103T000000Z" {
		t.Errorf("8: %q", shown(c))
	}
	seven, later := read(t, "DTSTART:19700101T000000Z\nRRULE:FREQ=SECONDLY;INTERVAL=7"), read(t, "DTSTART:19700101T000007Z\nRRULE:FREQ=SECONDLY;INTERVAL=7")
	a, _ := plan.Lower(seven)
	b, _ := plan.Lower(later)
	if v, _ := meet.Equal(a, b); v != (api.Verdict{At: 0, First: true}) {
		t.Errorf("9: %+v", v)
	}
	a[0].From = 1
	if v, _ := meet.Equal(a, b); !v.Yes {
		t.Errorf("9: %+v", v)
	}
	if c, _ := plan.Canon(read(t, "0-59 */1 1-31 1-12 0-7")); shown(c) != "* * * * *" {
		t.Errorf("10: %q", shown(c))
	}
}
