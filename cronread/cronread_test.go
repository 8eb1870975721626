package cronread

import (
	"math/rand"
	"strings"
	"testing"

	"feria/api"
	"feria/cron"
)

func star(step int) []api.Item { return []api.Item{{Kind: api.Star, Step: step}} }
func one(n int) api.Item       { return api.Item{Kind: api.One, From: n} }
func ranged(from, to, by int) api.Item {
	return api.Item{Kind: api.Range, From: from, To: to, Step: by}
}

func TestRead(t *testing.T) { // 25.1, 25.2
	all := api.Cron{Minute: star(1), Hour: star(1), Day: star(1), Month: star(1), Week: star(1)}
	with := func(change func(c *api.Cron)) api.Cron {
		c := all
		change(&c)
		return c
	}
	for s, want := range map[string]api.Cron{
		"* * * * *":            all,
		" \t*\t* \t * * *\t  ": all,
		"*/15 9-17 * * mon-fri": with(func(c *api.Cron) {
			c.Minute, c.Hour, c.Week = star(15), []api.Item{ranged(9, 17, 1)}, []api.Item{ranged(1, 5, 1)}
		}),
		"07,8 0-23/999 1-31/1 JAN,dEc,3 Sun,0,7,sat": with(func(c *api.Cron) {
			c.Minute, c.Hour, c.Day = []api.Item{one(7), one(8)}, []api.Item{ranged(0, 23, 999)}, []api.Item{ranged(1, 31, 1)}
			c.Month, c.Week = []api.Item{one(1), one(12), one(3)}, []api.Item{one(0), one(0), one(7), one(6)}
		}),
		"*/001,*,5-5 00 * feb-04 0-7": with(func(c *api.Cron) {
			c.Minute, c.Hour = []api.Item{{Kind: api.Star, Step: 1}, {Kind: api.Star, Step: 1}, ranged(5, 5, 1)}, []api.Item{one(0)}
			c.Month, c.Week = []api.Item{ranged(2, 4, 1)}, []api.Item{ranged(0, 7, 1)}
		}),
	} {
		c, n, e := Read(s)
		if !cron.Same(c, want) || n != len(s) || e != api.OK {
			t.Errorf("Read(%q) = %+v, %d, %v", s, c, n, e)
		}
		if _, e := cron.Check(c); e != api.OK {
			t.Errorf("%q is read, and may not be: %v", s, e)
		}
	}
}

func TestWrong(t *testing.T) { // 25.1
	list := func(n int) string { return strings.TrimSuffix(strings.Repeat("1,", n), ",") }
	for _, c := range []struct {
		s  string
		at int
		e  api.Errno
	}{
		{"@reboot", 0, api.ErrNick}, {" \t@daily", 2, api.ErrNick}, {"", 0, api.ErrEnd}, {"  ", 2, api.ErrEnd},
		{"60 * * * *", 0, api.ErrRange}, {"* 24 * * *", 2, api.ErrRange}, {"* * 0 * *", 4, api.ErrRange}, {"* * 32 * *", 4, api.ErrRange}, {"* * * 0 *", 6, api.ErrRange}, {"* * * 13 *", 6, api.ErrRange}, {"* * * * 8", 8, api.ErrRange},
		{"005 * * * *", 0, api.ErrRange}, {"9-8 * * * *", 2, api.ErrRange}, {"9-60 * * * *", 2, api.ErrRange}, {"* * * * fri-sun", 12, api.ErrRange}, {"9-008 * * * *", 2, api.ErrRange},
		{"*/0 * * * *", 2, api.ErrRange}, {"*/1000 * * * *", 2, api.ErrRange}, {"1-5/0 * * * *", 4, api.ErrRange}, {"*/ * * * *", 2, api.ErrForm}, {"*/", 2, api.ErrEnd}, {"*/x", 2, api.ErrForm},
		{"mon * * * *", 0, api.ErrForm}, {"* * * mon *", 6, api.ErrName}, {"* * * * jan", 8, api.ErrName}, {"* * * * mond", 8, api.ErrName}, {"* * * jan-fox *", 10, api.ErrName}, {"* * * january *", 6, api.ErrName},
		{"1- * * * *", 2, api.ErrForm}, {"1-", 2, api.ErrEnd}, {"1,", 2, api.ErrEnd}, {", * * * *", 0, api.ErrForm}, {"1,,2 * * * *", 2, api.ErrForm}, {"1-* * * * *", 2, api.ErrForm}, {"-1 * * * *", 0, api.ErrForm},
		{"* * * *", 7, api.ErrEnd}, {"* * * * ", 8, api.ErrEnd}, {"*", 1, api.ErrEnd}, {"*x * * * *", 1, api.ErrForm}, {"5/10 * * * *", 1, api.ErrForm}, {"** * * * *", 1, api.ErrForm}, {"*\n* * * *", 1, api.ErrForm},
		{"* * * * * *", 10, api.ErrForm}, {"* * * * *x", 9, api.ErrForm}, {"* * * * * \n", 10, api.ErrForm}, {"* * * * 1mon", 9, api.ErrForm},
		{list(65) + " * * * *", 127, api.ErrLong}, {"* " + list(64) + ",x", 2 + 127, api.ErrLong}, {list(64) + " * * *", 127 + 6, api.ErrEnd},
		{strings.Repeat(" ", 8193), 8192, api.ErrLong}, {"@" + strings.Repeat(" ", 8192), 8192, api.ErrLong}, {strings.Repeat(" ", 8192), 8192, api.ErrEnd},
		{"ſun * * * *", 0, api.ErrForm}, {"* * * * ſun", 8, api.ErrForm}, {"\x00", 0, api.ErrForm},
	} {
		if l, at, e := Read(c.s); !cron.Same(l, api.Cron{}) || at != c.at || e != c.e {
			t.Errorf("Read(%.40q) = %d, %v; want %d, %v", c.s, at, e, c.at, c.e)
		}
	}
	if _, n, e := Read("* * * * *" + strings.Repeat(" ", 8183)); n != 8192 || e != api.OK {
		t.Errorf("a text that is as long as may be: %d, %v", n, e)
	}
}

func TestWhatIsReadMayBe(t *testing.T) { // 25.2
	r := rand.New(rand.NewSource(25))
	parts := []string{"*", "*", "/", "-", ",", " ", " ", " ", "0", "5", "31", "12", "7", "mon", "jan", "60", "*/2", "1-5", "@", "x"}
	read := 0
	for range 200000 {
		s := ""
		for range 5 + r.Intn(8) {
			s += parts[r.Intn(len(parts))]
		}
		c, n, e := Read(s)
		if e != api.OK {
			if n < 0 || n > len(s) {
				t.Fatalf("Read(%q): a place beyond: %d", s, n)
			}
			continue
		}
		read++
		if _, e := cron.Check(c); e != api.OK || n != len(s) {
			t.Fatalf("Read(%q) = %+v, %d", s, c, n)
		}
	}
	if read == 0 {
		t.Error("none was read")
	}
}
