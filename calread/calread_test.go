package calread

import (
	"math/rand"
	"strings"
	"testing"

	"feria/api"
	"feria/cal"
)

func one(n int) api.Item { return api.Item{Kind: api.One, From: n} }
func ranged(from, to, by int) api.Item {
	return api.Item{Kind: api.Range, From: from, To: to, Step: by}
}
func rest(from, by int) api.Item      { return api.Item{Kind: api.Rest, From: from, Step: by} }
func list(its ...api.Item) []api.Item { return its }

func TestRead(t *testing.T) { // 29.1, 29.2
	midnight := api.Cal{Year: star(), Month: star(), Day: star(), Hour: nought(), Minute: nought(), Second: nought()}
	with := func(change func(c *api.Cal)) api.Cal {
		c := midnight
		change(&c)
		return c
	}
	for s, want := range map[string]api.Cal{
		"*-*-*":    midnight,
		"0:0":      midnight,
		"00:00:00": midnight,
		"daily":    midnight,
		"minutely": with(func(c *api.Cal) { c.Hour, c.Minute = star(), star() }),
		"HOURLY":   with(func(c *api.Cal) { c.Hour = star() }),
		"Weekly":   with(func(c *api.Cal) { c.Week = list(one(1)) }),
		"monthly":  with(func(c *api.Cal) { c.Day = list(one(1)) }),
		"quarterly": with(func(c *api.Cal) {
			c.Month, c.Day = list(one(1), one(4), one(7), one(10)), list(one(1))
		}),
		"semiannually": with(func(c *api.Cal) { c.Month, c.Day = list(one(1), one(7)), list(one(1)) }),
		"yearly":       with(func(c *api.Cal) { c.Month, c.Day = list(one(1)), list(one(1)) }),
		"annualLY":     with(func(c *api.Cal) { c.Month, c.Day = list(one(1)), list(one(1)) }),
		"Mon":          with(func(c *api.Cal) { c.Week = list(one(1)) }),
		"Mon..Fri 9:30": with(func(c *api.Cal) {
			c.Week, c.Hour, c.Minute = list(ranged(1, 5, 1)), list(one(9)), list(one(30))
		}),
		"sUN,mon..mon,TUE": with(func(c *api.Cal) { c.Week = list(one(7), ranged(1, 1, 1), one(2)) }),
		"*-02~01":          with(func(c *api.Cal) { c.Month, c.Back, c.Day = list(one(2)), true, list(one(1)) }),
		"02~*":             with(func(c *api.Cal) { c.Month, c.Back = list(one(2)), true }),
		"5-1..9/2,7/3":     with(func(c *api.Cal) { c.Month, c.Day = list(one(5)), list(ranged(1, 9, 2), rest(7, 3)) }),
		"Sat 1970..2369/10,2000/4-12~31 *:*:*": with(func(c *api.Cal) {
			c.Week, c.Year, c.Month, c.Back, c.Day = list(one(6)), list(ranged(1970, 2369, 10), rest(2000, 4)), list(one(12)), true, list(one(31))
			c.Hour, c.Minute, c.Second = star(), star(), star()
		}),
		"*-* 1..2,5:00/15:0..59/999": with(func(c *api.Cal) {
			c.Hour, c.Minute, c.Second = list(ranged(1, 2, 1), one(5)), list(rest(0, 15)), list(ranged(0, 59, 999))
		}),
		"5..5:0":    with(func(c *api.Cal) { c.Hour = list(ranged(5, 5, 1)) }),
		"Mon 01-01": with(func(c *api.Cal) { c.Week, c.Month, c.Day = list(one(1)), list(one(1)), list(one(1)) }),
		"Mon 1:2:3,4": with(func(c *api.Cal) {
			c.Week, c.Hour, c.Minute, c.Second = list(one(1)), list(one(1)), list(one(2)), list(one(3), one(4))
		}),
	} {
		c, n, e := Read(s)
		if !cal.Same(c, want) || n != len(s) || e != api.OK {
			t.Errorf("Read(%q) = %+v, %d, %v", s, c, n, e)
		}
		if _, e := cal.Check(c); e != api.OK {
			t.Errorf("%q is read, and may not be: %v", s, e)
		}
	}
}

func TestWrongWords(t *testing.T) { // 29.1
	for _, c := range []struct {
		s  string
		at int
		e  api.Errno
	}{
		{"", 0, api.ErrEnd}, {" ", 0, api.ErrForm}, {"Mon ", 4, api.ErrEnd}, {"Mon  9:30", 4, api.ErrForm}, {"9:30 ", 5, api.ErrEnd}, {"9:30  ", 5, api.ErrForm}, {"Mon\t9:30", 3, api.ErrForm}, {"daily ", 0, api.ErrName},
		{"12:00 UTC", 6, api.ErrZone}, {"Mon Tue", 4, api.ErrZone}, {"*-*-* z", 6, api.ErrZone}, {"9:30 9:30", 5, api.ErrForm}, {"9:30 *-*-*", 5, api.ErrForm}, {"*-* *-*", 4, api.ErrForm}, {"Mon *-* 9:30 9:30", 13, api.ErrForm},
		{"Mon *-* 9:30 Europe/Berlin", 13, api.ErrZone}, {strings.Repeat("x", 8193), 8192, api.ErrLong}, {strings.Repeat(" ", 8193), 8192, api.ErrLong}, {"@daily", 0, api.ErrForm},
		{"Axx", 0, api.ErrName}, {"Zxx", 0, api.ErrName}, {"axx", 0, api.ErrName}, {"zxx", 0, api.ErrName}, {"[xx", 0, api.ErrForm}, {"`xx", 0, api.ErrForm}, {"{xx", 0, api.ErrForm}, {"0:0 Z", 4, api.ErrZone}, {"0:0 [", 4, api.ErrForm},
		{"xyz", 0, api.ErrName}, {"Monday", 0, api.ErrName}, {"Mon,", 4, api.ErrEnd}, {"Mon, Tue", 4, api.ErrForm}, {"Mon,,Tue", 4, api.ErrForm}, {"Mon,x", 4, api.ErrName}, {"Mon..", 5, api.ErrEnd}, {"Mon..5", 5, api.ErrForm}, {"Mon...Tue", 5, api.ErrForm},
		{"Fri..Mon", 5, api.ErrRange}, {"Mon..xx", 5, api.ErrName}, {"Mon.Tue", 3, api.ErrForm}, {"Mon/2", 3, api.ErrForm}, {"Mon-Fri", 3, api.ErrForm}, {"Mon1", 3, api.ErrForm}, {"ſun", 0, api.ErrForm},
		{strings.Repeat("Mon,", 64) + "x", 255, api.ErrLong}, {strings.Repeat("Mon,", 63) + "x", 252, api.ErrName},
	} {
		if l, at, e := Read(c.s); !cal.Same(l, api.Cal{}) || at != c.at || e != c.e {
			t.Errorf("Read(%.40q) = %d, %v; want %d, %v", c.s, at, e, c.at, c.e)
		}
	}
}

func TestWrongFields(t *testing.T) { // 29.1
	for _, c := range []struct {
		s  string
		at int
		e  api.Errno
	}{
		{"9", 1, api.ErrEnd}, {"9:", 2, api.ErrEnd}, {"9:x", 2, api.ErrForm}, {":9", 0, api.ErrForm}, {"9 30", 1, api.ErrForm}, {"9:30:", 5, api.ErrEnd}, {"9:30:0:0", 6, api.ErrForm}, {"9:30x", 4, api.ErrForm},
		{"24:00", 0, api.ErrRange}, {"009:00", 0, api.ErrRange}, {"9:60", 2, api.ErrRange}, {"9:0:60", 4, api.ErrRange}, {"9..8:0", 3, api.ErrRange}, {"9..24:0", 3, api.ErrRange}, {"9..008:0", 3, api.ErrRange},
		{"9/0:0", 2, api.ErrRange}, {"9/1000:0", 2, api.ErrRange}, {"9/:0", 2, api.ErrForm}, {"9/", 2, api.ErrEnd}, {"9/x:0", 2, api.ErrForm}, {"*/2:0", 1, api.ErrForm}, {"*,5:0", 1, api.ErrForm}, {"5,*:0", 2, api.ErrForm}, {"5,:0", 2, api.ErrForm},
		{"0:0:0.5", 5, api.ErrSub}, {"0:0:0.", 5, api.ErrSub}, {"0:0:0..5.5", 8, api.ErrSub}, {"0:0:0/5.5", 7, api.ErrForm}, {"0:0:0...5", 7, api.ErrForm}, {"0:0:60.5", 4, api.ErrRange}, {"0:0:5..4.5", 7, api.ErrRange}, {"0:0:1,2.5", 7, api.ErrSub}, {"0:0.5", 3, api.ErrForm}, {"0.5:0", 1, api.ErrForm}, {"0:0:*.5", 5, api.ErrForm},
		{"*-", 2, api.ErrEnd}, {"*-x", 2, api.ErrForm}, {"-5", 0, api.ErrForm}, {"0-5", 0, api.ErrRange}, {"13-5", 0, api.ErrRange}, {"5-0", 2, api.ErrRange}, {"5-32", 2, api.ErrRange}, {"1-1-1", 0, api.ErrRange}, {"1969-1-1", 0, api.ErrRange}, {"2370-1-1", 0, api.ErrRange}, {"01970-1-1", 0, api.ErrRange},
		{"1970-1", 0, api.ErrRange}, {"1970~1-1", 4, api.ErrForm}, {"1970-1-1-1", 8, api.ErrForm}, {"1970--1", 5, api.ErrForm}, {"1970-1-", 7, api.ErrEnd}, {"*-*~", 4, api.ErrEnd}, {"*-*-*x", 5, api.ErrForm}, {"*-5:30-7", 3, api.ErrForm}, {"5:30-7", 1, api.ErrForm},
		{"1971..1970-1-1", 6, api.ErrRange}, {"5~5/1000", 4, api.ErrRange}, {"*-* 24:0", 4, api.ErrRange},
		{strings.Repeat("1,", 64) + "1:0", 127, api.ErrLong}, {strings.Repeat("1970,", 400) + "1970-1-1", 1999, api.ErrLong}, {strings.Repeat("1970,", 399) + "1970-1-0", 2002, api.ErrRange}, {strings.Repeat("1,", 63) + "1:60", 128, api.ErrRange},
	} {
		if l, at, e := Read(c.s); !cal.Same(l, api.Cal{}) || at != c.at || e != c.e {
			t.Errorf("Read(%.40q) = %d, %v; want %d, %v", c.s, at, e, c.at, c.e)
		}
	}
}

func TestWhatIsReadMayBe(t *testing.T) { // 29.2
	r := rand.New(rand.NewSource(29))
	parts := []string{"*", "*", "-", "-", "~", ":", ":", ",", " ", " ", "0", "5", "31", "12", "1970", "..", "/2", "Mon", "Fri", "60", ".", "x"}
	read := 0
	for range 300000 {
		s := ""
		for range 1 + r.Intn(9) {
			s += parts[r.Intn(len(parts))]
		}
		c, n, e := Read(s)
		if e != api.OK {
			if n < 0 || n > len(s) {
				t.Fatalf("Read(%q): a place beyond: %d", s, n)
			}
			continue
		}
		read++
		if _, e := cal.Check(c); e != api.OK || n != len(s) {
			t.Fatalf("Read(%q) = %+v, %d", s, c, n)
		}
	}
	if read < 100 {
		t.Errorf("%d were read", read)
	}
}
