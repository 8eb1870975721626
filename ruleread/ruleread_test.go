package ruleread

import (
	"math/rand"
	"strings"
	"testing"

	"feria/api"
	"feria/rule"
)

const head = "DTSTART:19700105T090000Z\nRRULE:"

func TestRead(t *testing.T) { // 33.1
	plain := api.Rule{Start: 4*86400 + 9*3600, Freq: api.Day, Interval: 1, Until: -1}
	with := func(change func(r *api.Rule)) api.Rule {
		r := plain
		change(&r)
		return r
	}
	for s, want := range map[string]api.Rule{
		"FREQ=DAILY":                 plain,
		"WKST=MO;FREQ=DAILY":         plain,
		"FREQ=WEEKLY;BYDAY=MO,FR":    with(func(r *api.Rule) { r.Freq, r.Week = api.Week, []api.Nth{{N: 0, Day: 1}, {N: 0, Day: 5}} }),
		"INTERVAL=007;FREQ=SECONDLY": with(func(r *api.Rule) { r.Freq, r.Interval = api.Second, 7 }),
		"COUNT=999999999999999;FREQ=MINUTELY;INTERVAL=999999999999999": with(func(r *api.Rule) { r.Freq, r.Count, r.Interval = api.Minute, 999999999999999, 999999999999999 }),
		"FREQ=HOURLY;UNTIL=23691231T235959Z;BYSECOND=0,59,5":           with(func(r *api.Rule) { r.Freq, r.Until, r.Seconds = api.Hour, api.End-1, []int{0, 59, 5} }),
		"BYMONTH=01,12;BYMONTHDAY=-31,-1,-07;FREQ=MONTHLY": with(func(r *api.Rule) {
			r.Freq, r.Months, r.Days = api.Month, []int{1, 12}, []int{-31, -1, -7}
		}),
		"FREQ=YEARLY;BYDAY=-53SU,-1SA,-02TH;BYHOUR=0,23;BYMINUTE=59": with(func(r *api.Rule) {
			r.Freq, r.Week, r.Hours, r.Minutes = api.Year, []api.Nth{{N: -53, Day: 7}, {N: -1, Day: 6}, {N: -2, Day: 4}}, []int{0, 23}, []int{59}
		}),
		"FREQ=MONTHLY;BYDAY=1TU,05WE": with(func(r *api.Rule) { r.Freq, r.Week = api.Month, []api.Nth{{N: 1, Day: 2}, {N: 5, Day: 3}} }),
		"FREQ=YEARLY;BYDAY=9MO,10TU;BYMINUTE=0": with(func(r *api.Rule) {
			r.Freq, r.Week, r.Minutes = api.Year, []api.Nth{{N: 9, Day: 1}, {N: 10, Day: 2}}, []int{0}
		}),
		"FREQ=DAILY;BYMONTHDAY=1,31": with(func(r *api.Rule) { r.Days = []int{1, 31} }),
	} {
		r, n, e := Read(head + s)
		if !rule.Same(r, want) || n != len(head+s) || e != api.OK {
			t.Errorf("Read(%q) = %+v, %d, %v", s, r, n, e)
		}
		if e := rule.Check(r); e != api.OK {
			t.Errorf("%q is read, and may not be: %v", s, e)
		}
	}
	many := "FREQ=DAILY;BYHOUR=" + strings.TrimSuffix(strings.Repeat("1,", 64), ",")
	if r, _, e := Read(head + many); e != api.OK || len(r.Hours) != 64 {
		t.Errorf("64 items: %v", e)
	}
}

func TestWrongHead(t *testing.T) { // 33.1
	for _, c := range []struct {
		s  string
		at int
		e  api.Errno
	}{
		{"", 0, api.ErrEnd}, {"D", 0, api.ErrForm}, {"dtstart:", 0, api.ErrForm}, {" DTSTART:", 0, api.ErrForm}, {"DTSTART", 7, api.ErrEnd}, {"DTSTARTX", 7, api.ErrForm}, {"DTSTART;TZID=x:", 7, api.ErrZone},
		{"DTSTART:", 8, api.ErrEnd}, {"DTSTART:\nRRULE:", 8, api.ErrEnd}, {"DTSTART:1970", 12, api.ErrEnd}, {"DTSTART:19700105T090000\nRRULE:", 23, api.ErrZone}, {"DTSTART:19700105T090000Z;x", 24, api.ErrForm}, {"DTSTART:19700105T090000Zx", 24, api.ErrZone},
		{"DTSTART:19700132T090000Z\n", 8, api.ErrRange}, {"DTSTART:19700105 090000Z\n", 16, api.ErrForm}, {"DTSTART:19700105T090000Z", 24, api.ErrEnd}, {"DTSTART:19700105T090000Z\r\n", 24, api.ErrZone},
		{"DTSTART:19700105T090000Z\n", 25, api.ErrEnd}, {"DTSTART:19700105T090000Z\nRRUL", 25, api.ErrForm}, {"DTSTART:19700105T090000Z\nRRULE", 30, api.ErrEnd}, {"DTSTART:19700105T090000Z\nRRULE;", 30, api.ErrForm},
		{strings.Repeat("x", 8193), 8192, api.ErrLong}, {head + strings.Repeat("FREQ", 4000), 8192, api.ErrLong},
	} {
		if r, at, e := Read(c.s); !rule.Same(r, api.Rule{}) || at != c.at || e != c.e {
			t.Errorf("Read(%.40q) = %d, %v; want %d, %v", c.s, at, e, c.at, c.e)
		}
	}
}

func TestWrongParts(t *testing.T) { // 33.1
	for _, c := range []struct {
		s  string
		at int
		e  api.Errno
	}{
		{"", 0, api.ErrEnd}, {";", 0, api.ErrForm}, {"=", 0, api.ErrForm}, {"FREQ", 4, api.ErrEnd}, {"FREQ:", 4, api.ErrForm}, {"FREQ=", 5, api.ErrEnd}, {"FREQ=;", 5, api.ErrForm}, {"FREQ=5", 5, api.ErrForm}, {"FREQ=DAILY;", 11, api.ErrEnd}, {"FREQ=DAILY;;", 11, api.ErrForm},
		{"FREQ=DAY", 5, api.ErrName}, {"FREQ=daily", 5, api.ErrName}, {"freq=DAILY", 0, api.ErrName}, {"X-Y=1", 0, api.ErrName}, {"FREQ=DAILY;BYSETPOS=1", 11, api.ErrPart}, {"BYYEARDAY", 0, api.ErrPart}, {"BYWEEKNO=1", 0, api.ErrPart}, {"BYSETPOSX", 0, api.ErrName}, {"BYEASTER=0", 0, api.ErrName},
		{"FREQ=DAILY;FREQ=DAILY", 11, api.ErrTwice}, {"FREQ=DAILY;WKST=MO;WKST=MO", 19, api.ErrTwice}, {"COUNT=1;COUNT", 8, api.ErrTwice}, {"FREQ=DAILY,", 10, api.ErrForm}, {"FREQ=DAILY\n", 10, api.ErrForm}, {"FREQ=DAILY ", 10, api.ErrForm},
		{"INTERVAL=0", 9, api.ErrRange}, {"INTERVAL=000", 9, api.ErrRange}, {"INTERVAL=-1", 9, api.ErrForm}, {"INTERVAL=", 9, api.ErrEnd}, {"INTERVAL=1000000000000000", 9, api.ErrRange}, {"COUNT=0", 6, api.ErrRange}, {"COUNT=x", 6, api.ErrForm}, {"COUNT=0000000000000001", 6, api.ErrRange},
		{"UNTIL=19700105", 14, api.ErrEnd}, {"UNTIL=x", 6, api.ErrForm}, {"UNTIL=19700105T090000;", 21, api.ErrZone}, {"UNTIL=23700101T000000Z;", 6, api.ErrRange}, {"UNTIL=19700105T090000Z\n", 22, api.ErrForm}, {"UNTIL=", 6, api.ErrEnd},
		{"BYMONTH=0", 8, api.ErrRange}, {"BYMONTH=13", 8, api.ErrRange}, {"BYMONTH=001", 8, api.ErrRange}, {"BYMONTH=-1", 8, api.ErrForm}, {"BYMONTH=1,", 10, api.ErrEnd}, {"BYMONTH=1,;", 10, api.ErrForm}, {"BYMONTH=", 8, api.ErrEnd}, {"BYMONTH=JAN", 8, api.ErrForm},
		{"BYMONTHDAY=0", 11, api.ErrRange}, {"BYMONTHDAY=32", 11, api.ErrRange}, {"BYMONTHDAY=-32", 12, api.ErrRange}, {"BYMONTHDAY=-0", 12, api.ErrRange}, {"BYMONTHDAY=--1", 12, api.ErrForm}, {"BYMONTHDAY=+1", 11, api.ErrForm}, {"BYMONTHDAY=-", 12, api.ErrEnd},
		{"BYDAY=XX", 6, api.ErrName}, {"BYDAY=MON", 6, api.ErrName}, {"BYDAY=mo", 6, api.ErrName}, {"BYDAY=0MO", 6, api.ErrRange}, {"BYDAY=54MO", 6, api.ErrRange}, {"BYDAY=-54MO", 7, api.ErrRange}, {"BYDAY=001MO", 6, api.ErrRange}, {"BYDAY=1", 7, api.ErrEnd}, {"BYDAY=1,", 7, api.ErrForm}, {"BYDAY=1XX", 7, api.ErrName}, {"BYDAY=-MO", 7, api.ErrForm}, {"BYDAY=+1MO", 6, api.ErrForm}, {"BYDAY=", 6, api.ErrEnd}, {"BYDAY=MO,", 9, api.ErrEnd},
		{"BYHOUR=24", 7, api.ErrRange}, {"BYMINUTE=60", 9, api.ErrRange}, {"BYSECOND=60", 9, api.ErrRange}, {"BYHOUR=-1", 7, api.ErrForm}, {"BYMINUTE=-1", 9, api.ErrForm}, {"BYSECOND=-1", 9, api.ErrForm}, {"WKST=SU", 5, api.ErrPart}, {"WKST=XX", 5, api.ErrName}, {"WKST=", 5, api.ErrEnd}, {"WKST=1MO", 5, api.ErrForm},
		{"INTERVAL=2", 10, api.ErrLack}, {"COUNT=5;UNTIL=19700105T090000Z", 30, api.ErrLack}, {"FREQ=DAILY;COUNT=5;UNTIL=19700105T090000Z", 41, api.ErrMix}, {"FREQ=WEEKLY;BYMONTHDAY=1", 24, api.ErrMix}, {"FREQ=DAILY;BYDAY=1MO", 20, api.ErrMix}, {"FREQ=MONTHLY;BYDAY=6MO", 22, api.ErrRange}, {"FREQ=MONTHLY;BYDAY=1MO,TU", 25, api.ErrMix}, {"FREQ=DAILY;BYMONTHDAY=1,-1", 26, api.ErrMix},
		{"BYHOUR=" + strings.Repeat("1,", 64) + "1", 7 + 127, api.ErrLong}, {"BYDAY=" + strings.Repeat("MO,", 64) + "MO", 6 + 191, api.ErrLong}, {"BYHOUR=" + strings.Repeat("1,", 63) + "99", 7 + 126, api.ErrRange},
	} {
		if r, at, e := Read(head + c.s); !rule.Same(r, api.Rule{}) || at != len(head)+c.at || e != c.e {
			t.Errorf("Read(%.40q) = %d, %v; want %d, %v", c.s, at-len(head), e, c.at, c.e)
		}
	}
}

func TestWhatIsReadMayBe(t *testing.T) { // 33.2
	r := rand.New(rand.NewSource(33))
	parts := []string{"FREQ=DAILY", "FREQ=YEARLY", "FREQ=MONTHLY", "FREQ=WEEKLY", "INTERVAL=3", "COUNT=9", "UNTIL=20000101T000000Z", "BYDAY=MO", "BYDAY=1MO,2TU", "BYDAY=-7MO", "BYMONTH=2", "BYMONTHDAY=5,6", "BYMONTHDAY=-1", "BYHOUR=5", "WKST=MO", "BYDAY=1MO,TU", "", "X"}
	read := 0
	for range 50000 {
		var some []string
		for range 1 + r.Intn(4) {
			some = append(some, parts[r.Intn(len(parts))])
		}
		s := head + strings.Join(some, ";")
		x, n, e := Read(s)
		if e != api.OK {
			if n < 0 || n > len(s) {
				t.Fatalf("Read(%q): a place beyond: %d", s, n)
			}
			continue
		}
		read++
		if rule.Check(x) != api.OK || n != len(s) {
			t.Fatalf("Read(%q) = %+v, %d", s, x, n)
		}
	}
	if read < 1000 {
		t.Errorf("%d were read", read)
	}
}
