package callow

import (
	"math/rand"
	"slices"
	"testing"
	"time"

	"feria/api"
	"feria/calread"
	"feria/clause"
	"feria/ir"
	"feria/mask"
	"feria/wide"
)

func read(t *testing.T, s string) api.Cal {
	t.Helper()
	c, _, e := calread.Read(s)
	if e != api.OK {
		t.Fatalf("%q: %v", s, e)
	}
	return c
}

func TestClauseLower(t *testing.T) { // 31.1
	for s, change := range map[string]func(c *api.Clause){
		"*-*-* *:*:*": func(c *api.Clause) {},
		"daily":       func(c *api.Clause) { c.Hour, c.Minute, c.Second = 1, 1, 1 },
		"Mon..Wed,Sun 1970,2369-2-5/10 *:1..3:0/30": func(c *api.Clause) {
			c.Week, c.Years, c.Month, c.Dom, c.Minute, c.Second = mask.Of(1, 2, 3, 7), wide.Of(0, 399), 1<<2, mask.Of(5, 15, 25), mask.Of(1, 2, 3), mask.Of(0, 30)
		},
		"*-02~01..03 5:*:*": func(c *api.Clause) { c.Month, c.End, c.Hour = 1<<2, mask.Of(1, 2, 3), 1<<5 },
	} {
		want := clause.Full()
		change(&want)
		if x, e := Clause(read(t, s)); x != want || e != api.OK {
			t.Errorf("Clause of %q: %+v, %v", s, x, e)
		}
		if set, e := Lower(read(t, s)); !slices.Equal(set, []api.Clause{want}) || e != api.OK {
			t.Errorf("Lower of %q: %+v, %v", s, set, e)
		}
	}
	bad := read(t, "daily")
	bad.Month = nil
	if x, e := Clause(bad); x != (api.Clause{}) || e != api.ErrLack {
		t.Errorf("Clause: %v", e)
	}
	bad.Month = []api.Item{{Kind: api.Star, Step: 2}}
	if set, e := Lower(bad); set != nil || e != api.ErrArg {
		t.Errorf("Lower: %v", e)
	}
}

func TestMeaning(t *testing.T) { // 31.2
	r := rand.New(rand.NewSource(31))
	for s, means := range map[string]func(d time.Time) bool{
		"*-02~01 0:0": func(d time.Time) bool {
			return d.Month() == 2 && d.AddDate(0, 0, 1).Month() == 3 && d.Hour() == 0 && d.Minute() == 0 && d.Second() == 0
		},
		"Sat,Sun *:*:*":       func(d time.Time) bool { return d.Weekday() == 0 || d.Weekday() == 6 },
		"2000/100-*-13 *:*:*": func(d time.Time) bool { return d.Year() >= 2000 && d.Year()%100 == 0 && d.Day() == 13 },
		"Fri *-*-13 *:*:*":    func(d time.Time) bool { return d.Weekday() == 5 && d.Day() == 13 },
		"*-*~* *:5/7:*":       func(d time.Time) bool { return d.Minute()%7 == 5 },
		"1..3-* 9..17/4:*:00": func(d time.Time) bool {
			return d.Month() <= 3 && (d.Hour() == 9 || d.Hour() == 13 || d.Hour() == 17) && d.Second() == 0
		},
	} {
		set, e := Lower(read(t, s))
		if e != api.OK {
			t.Fatal(s)
		}
		hits := 0
		for range 20000 {
			x := r.Int63n(api.End)
			switch r.Intn(4) {
			case 0:
				x -= x % 60
			case 1:
				x -= x % 86400
			}
			d := time.Unix(x, 0).UTC()
			if ir.Has(set, x) != means(d) {
				t.Fatalf("%q: %v", s, d)
			}
			if means(d) {
				hits++
			}
		}
		if hits == 0 {
			t.Errorf("%q means none of them", s)
		}
	}
}
