package cronlow

import (
	"math/rand"
	"slices"
	"strconv"
	"strings"
	"testing"
	"time"

	"feria/api"
	"feria/clause"
	"feria/cronread"
	"feria/ir"
)

func read(t *testing.T, s string) api.Cron {
	t.Helper()
	c, _, e := cronread.Read(s)
	if e != api.OK {
		t.Fatalf("%q: %v", s, e)
	}
	return c
}

func TestClauseLower(t *testing.T) { // 27.1
	x, e := Clause(read(t, "5,9 1-3 13 */6 0,5"))
	want := clause.Full()
	want.Second, want.Minute, want.Hour, want.Dom, want.Month, want.Week, want.Or = 1, 1<<5|1<<9, 1<<1|1<<2|1<<3, 1<<13, 1<<1|1<<7, 1<<7|1<<5, true
	if x != want || e != api.OK {
		t.Errorf("Clause: %+v, %v", x, e)
	}
	set, e := Lower(read(t, "5,9 1-3 13 */6 0,5"))
	if !slices.Equal(set, []api.Clause{want}) || e != api.OK {
		t.Errorf("Lower: %+v, %v", set, e)
	}
	full := clause.Full()
	full.Second = 1
	if x, _ := Clause(read(t, "* * * * *")); x != full {
		t.Errorf("each minute: %+v", x)
	}
	bad := read(t, "* * * * *")
	bad.Month = nil
	if x, e := Clause(bad); x != (api.Clause{}) || e != api.ErrLack {
		t.Errorf("Clause: %v", e)
	}
	bad.Month, bad.Week = bad.Hour, []api.Item{{Kind: api.One, From: 8}}
	if set, e := Lower(bad); set != nil || e != api.ErrArg {
		t.Errorf("Lower: %v", e)
	}
}

// in tells whether a number is in a field's text of numbers, ranges and stars, by its words alone.
func in(text string, n, lo int) bool {
	for _, part := range strings.Split(text, ",") {
		part, by, _ := strings.Cut(part, "/")
		step := 1
		if by != "" {
			step, _ = strconv.Atoi(by)
		}
		from, to := lo, 99
		if part != "*" {
			a, b, isRange := strings.Cut(part, "-")
			from, _ = strconv.Atoi(a)
			to = from
			if isRange {
				to, _ = strconv.Atoi(b)
			}
		}
		if n >= from && n <= to && (n-from)%step == 0 {
			return true
		}
	}
	return false
}

// means tells whether a line means an instant, by its text.
func means(line string, x int64) bool {
	f := strings.Fields(line)
	d := time.Unix(x, 0).UTC()
	w := int(d.Weekday())
	day := in(f[2], d.Day(), 1)
	weekday := in(f[4], w, 0) || w == 0 && in(f[4], 7, 0)
	days := day && weekday
	if f[2][0] != '*' && f[4][0] != '*' {
		days = day || weekday
	}
	return d.Second() == 0 && in(f[0], d.Minute(), 0) && in(f[1], d.Hour(), 0) && in(f[3], int(d.Month()), 1) && days
}

func TestMeaning(t *testing.T) { // 27.2
	r := rand.New(rand.NewSource(27))
	for _, line := range []string{
		"* * * * *", "0 0 13 * 5", "0 0 */2 * 5", "30 4 1,15 * 5", "0 0 * * 0", "0 0 * * 7", "*/15 9-17 * 1-11/2 1-5", "0 0 1-31 * 3", "0 0 31 * */2", "0 0 5,* * 3", "0 0 *,5 * 3", "0 0 30 2 *", "0 12 29 2 6-7", "5 5 */31 * 6", "0 0 2 * */7", "0 0 3 * 2-7/5",
	} {
		set, e := Lower(read(t, line))
		if e != api.OK {
			t.Fatal(line)
		}
		for range 4000 {
			x := r.Int63n(api.End)
			switch r.Intn(4) {
			case 0:
				x -= x % 60
			case 1:
				x -= x % 3600
			case 2:
				x -= x % 86400
			}
			if ir.Has(set, x) != means(line, x) {
				t.Fatalf("%q: %v", line, time.Unix(x, 0).UTC())
			}
		}
	}
	if ir.Has(nil, 0) {
		t.Error("nothing")
	}
}
