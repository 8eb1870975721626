package unit

import (
	"math"
	"math/rand"
	"testing"

	"feria/api"
	"feria/week"
)

const last = api.End - 1

func TestWhich(t *testing.T) { // 10.1
	for _, c := range []struct {
		unit    int
		t, want int64
	}{
		{api.Second, 86399, 86399}, {api.Minute, 3599, 59}, {api.Hour, 86400, 24}, {api.Day, 86399, 0}, {api.Day, 86400, 1},
		{api.Week, 0, 0}, {api.Week, 4*86400 - 1, 0}, {api.Week, 4 * 86400, 1}, {api.Month, 0, 23640}, {api.Month, 31 * 86400, 23641},
		{api.Month, last, 12*2369 + 11}, {api.Year, 0, 1970}, {api.Year, last, 2369}, {api.Second, last, last},
	} {
		if got, ok := Which(c.unit, c.t); got != c.want || !ok {
			t.Errorf("Which(%d, %d) = %d", c.unit, c.t, got)
		}
	}
	for _, c := range [][2]int64{{-1, 0}, {7, 0}, {math.MaxInt64, 5}, {0, -1}, {3, api.End}, {6, math.MinInt64}, {6, math.MaxInt64}} {
		if got, ok := Which(int(c[0]), c[1]); got != 0 || ok {
			t.Errorf("Which(%v) = %d", c, got)
		}
	}
}

func TestOn(t *testing.T) { // 10.1
	r := rand.New(rand.NewSource(10))
	for range 20000 {
		u, step := r.Intn(api.Units), 1+r.Int63n(9)
		a, x := r.Int63n(api.End), r.Int63n(api.End)
		if r.Intn(2) == 0 {
			x = min(a+r.Int63n(900), last)
		}
		wa, _ := Which(u, a)
		wx, _ := Which(u, x)
		want := (max(wa, wx)-min(wa, wx))%step == 0
		if On(u, step, a, x) != want {
			t.Fatalf("On(%d, %d, %d, %d)", u, step, a, x)
		}
	}
	if !On(api.Second, math.MaxInt64, 5, 5) || On(api.Second, math.MaxInt64, 5, 6) {
		t.Error("a step that is beyond all")
	}
	if On(api.Day, 0, 0, 0) || On(api.Day, -1, 0, 0) || On(-1, 1, 0, 0) || On(7, 1, 0, 0) || On(api.Day, 1, -1, 0) || On(api.Day, 1, 0, api.End) {
		t.Error("what may not be")
	}
}

func TestOnDayDaysSize(t *testing.T) { // 10.2
	r := rand.New(rand.NewSource(11))
	for range 3000 {
		u, step, a := api.Day+r.Intn(4), 1+r.Int63n(9), r.Int63n(api.End)
		f := Days(u, step, a)
		d := r.Int63n(api.Days)
		s, _ := week.Shape(d)
		want := On(u, step, a, d*86400+r.Int63n(86400))
		if OnDay(u, step, a, s) != want || f(s) != want {
			t.Fatalf("OnDay(%d, %d, %d, %d)", u, step, a, d)
		}
	}
	for _, d := range []int64{0, 1, api.Days - 1} {
		if s, _ := week.Shape(d); !OnDay(api.Day, 1, 0, s) || OnDay(api.Day, 2, 0, s) != (d%2 == 0) {
			t.Errorf("day %d", d)
		}
	}
	s, _ := week.Shape(77)
	for u := range api.Day {
		if !OnDay(u, 5, 0, s) || OnDay(u, 0, 0, s) || OnDay(u, 5, -1, s) || OnDay(u, 5, api.End, s) {
			t.Errorf("unit %d below a day", u)
		}
	}
	if OnDay(-1, 1, 0, s) || OnDay(7, 1, 0, s) || Days(7, 1, 0)(s) || OnDay(api.Week, 0, 0, s) || OnDay(api.Month, 1, -1, s) || OnDay(api.Day, 1, 0, api.Shape{Day: -1}) || OnDay(api.Day, 1, 0, api.Shape{Day: api.Days}) {
		t.Error("what may not be")
	}
	for u, want := range []int64{1, 60, 3600, 0, 0, 0, 0, 0} {
		if Size(u) != want {
			t.Errorf("Size(%d)", u)
		}
	}
	if Size(-1) != 0 {
		t.Error("Size(-1)")
	}
}

func TestPhase(t *testing.T) { // 10.2, 10.4
	if Phase(api.Hour, 5, 0, 1) != 1 {
		t.Error("the example")
	}
	r := rand.New(rand.NewSource(12))
	for range 400 {
		u, step, a, d := r.Intn(3), 1+r.Int63n(100), r.Int63n(api.End), r.Int63n(api.Days)
		p := Phase(u, step, a, d)
		if p < 0 || p >= step {
			t.Fatalf("Phase(%d, %d, %d, %d) = %d", u, step, a, d, p)
		}
		for n := range 86400 / Size(u) {
			first, end := d*86400+n*Size(u), d*86400+(n+1)*Size(u)-1
			want := n >= p && (n-p)%step == 0
			if On(u, step, a, first) != want || On(u, step, a, end) != want {
				t.Fatalf("unit %d of day %d, phase %d", n, d, p)
			}
		}
	}
	if Phase(api.Second, math.MaxInt64, 86400, 0) != 86400 || Phase(api.Second, math.MaxInt64, 0, 1) != math.MaxInt64-86400 {
		t.Error("great steps")
	}
	for _, c := range [][4]int64{{3, 5, 0, 1}, {6, 5, 0, 1}, {-1, 5, 0, 1}, {2, 0, 0, 1}, {2, -5, 0, 1}, {2, 5, -1, 1}, {2, 5, api.End, 1}, {2, 5, 0, -1}, {2, 5, 0, api.Days}, {2, 5, math.MaxInt64, math.MinInt64}} {
		if p := Phase(int(c[0]), c[1], c[2], c[3]); p != 0 {
			t.Errorf("Phase(%v) = %d", c, p)
		}
	}
}

func TestNames(t *testing.T) { // 10.3
	for u, n := range []string{"SECONDLY", "MINUTELY", "HOURLY", "DAILY", "WEEKLY", "MONTHLY", "YEARLY"} {
		if Name(u) != n {
			t.Errorf("Name(%d) = %q", u, Name(u))
		}
		if got, ok := Of(n); got != u || !ok {
			t.Errorf("Of(%q) = %d", n, got)
		}
	}
	if Name(-1) != "" || Name(7) != "" {
		t.Error("names of others")
	}
	for _, n := range []string{"", "daily", "DAILY ", "DAY"} {
		if got, ok := Of(n); got != 0 || ok {
			t.Errorf("Of(%q) = %d", n, got)
		}
	}
}
