package week

import (
	"math"
	"testing"
	"time"

	"feria/api"
)

func TestDayNumberWhich(t *testing.T) { // 6.1
	for n := int64(-2000); n < 2000; n++ {
		d := time.Unix(n*86400, 0).UTC()
		if want := (int(d.Weekday())+6)%7 + 1; Day(n) != want {
			t.Fatalf("Day(%d) = %d", n, Day(n))
		}
		if Day(n) == 1 && Number(n) != Number(n-1)+1 || Day(n) != 1 && Number(n) != Number(n-1) {
			t.Fatalf("Number(%d) = %d", n, Number(n))
		}
		if Day(n+7) != Day(n) || Number(n+7) != Number(n)+1 {
			t.Fatalf("seven days behind %d", n)
		}
	}
	if Day(0) != 4 || Number(0) != 0 || Number(3) != 0 || Number(4) != 1 || Number(-3) != 0 || Number(-4) != -1 {
		t.Error("the first days")
	}
	for _, n := range []int64{math.MinInt64, math.MaxInt64} {
		if Day(n) < 1 || Day(n) > 7 || Number(n)*7-n > 7 || n-Number(n)*7 > 7 {
			t.Errorf("%d: %d, %d", n, Day(n), Number(n))
		}
	}
	for _, c := range [][4]int{{1, 31, 1, 5}, {31, 31, 5, 1}, {7, 28, 1, 4}, {8, 28, 2, 3}, {3, 31, 1, 5}, {4, 31, 1, 4}, {0, 31, 0, 0}, {32, 31, 0, 0}, {1, 0, 0, 0}, {-1, -1, 0, 0}, {math.MaxInt, math.MaxInt, (math.MaxInt-1)/7 + 1, 1}} {
		if a, b := Which(c[0], c[1]); a != c[2] || b != c[3] {
			t.Errorf("Which(%d, %d) = %d, %d", c[0], c[1], a, b)
		}
	}
}

// plain is what a day is, looked up in the months and years around it.
func plain(n int64) api.Shape {
	d := time.Unix(n*86400, 0).UTC()
	s := api.Shape{Day: int(n), Year: d.Year(), Month: int(d.Month()), Dom: d.Day(), Week: (int(d.Weekday())+6)%7 + 1}
	s.Back = d.AddDate(0, 0, 1-d.Day()).AddDate(0, 1, -1).Day() - d.Day() + 1
	for x := d; x.Month() == d.Month(); x = x.AddDate(0, 0, -7) {
		s.InMonth++
	}
	for x := d; x.Month() == d.Month(); x = x.AddDate(0, 0, 7) {
		s.OffMonth++
	}
	for x := d; x.Year() == d.Year(); x = x.AddDate(0, 0, -7) {
		s.InYear++
	}
	for x := d; x.Year() == d.Year(); x = x.AddDate(0, 0, 7) {
		s.OffYear++
	}
	return s
}

func TestShape(t *testing.T) { // 6.2, 6.4
	for n := int64(0); n < api.Days; n += 1 + n%13 {
		s, ok := Shape(n)
		if !ok || s != plain(n) {
			t.Fatalf("Shape(%d) = %+v, want %+v", n, s, plain(n))
		}
		if s.InMonth > 5 || s.OffMonth > 5 || s.InYear > 53 || s.OffYear > 53 {
			t.Fatalf("%+v", s)
		}
	}
	if s, _ := Shape(58); s != (api.Shape{Day: 58, Year: 1970, Month: 2, Dom: 28, Back: 1, Week: 6, InMonth: 4, OffMonth: 1, InYear: 9, OffYear: 44}) {
		t.Errorf("the example: %+v", s)
	}
	for _, n := range []int64{-1, api.Days, math.MinInt64, math.MaxInt64} {
		if s, ok := Shape(n); ok || s != (api.Shape{}) {
			t.Errorf("Shape(%d)", n)
		}
	}
}

func TestDays(t *testing.T) { // 6.2
	want := int64(0)
	for s := range Days(math.MinInt64, math.MaxInt64) {
		if w, _ := Shape(want); s != w {
			t.Fatalf("day %d: %+v, want %+v", want, s, w)
		}
		want++
	}
	if want != api.Days {
		t.Errorf("%d days", want)
	}
	seq := Days(700, 703)
	for range 2 {
		var got []int
		for s := range seq {
			got = append(got, s.Day)
		}
		if len(got) != 4 || got[0] != 700 || got[3] != 703 {
			t.Errorf("days %v", got)
		}
	}
	one := 0
	for s := range Days(5, 5) {
		one += s.Day
	}
	if one != 5 {
		t.Error("one day alone")
	}
	for s := range seq {
		if s.Day > 701 {
			t.Error("more than wanted")
		}
		if s.Day == 701 {
			break
		}
	}
	for _, c := range [][2]int64{{5, 4}, {-9, -1}, {api.Days, api.Days + 9}, {math.MaxInt64, math.MinInt64}} {
		for range Days(c[0], c[1]) {
			t.Errorf("a day of %v", c)
		}
	}
}

func TestNames(t *testing.T) { // 6.3
	for i, n := range []string{"", "Mon", "Tue", "Wed", "Thu", "Fri", "Sat", "Sun", ""} {
		if Name(i) != n {
			t.Errorf("Name(%d) = %q", i, Name(i))
		}
	}
	if Name(-1) != "" || Name(math.MaxInt) != "" {
		t.Error("names of others")
	}
	for name, want := range map[string]int{"Mon": 1, "sun": 7, "FRI": 5, "tHu": 4, "SAT": 6, "tuE": 2, "WED": 3} {
		if w, ok := Of(name); w != want || !ok {
			t.Errorf("Of(%q) = %d", name, w)
		}
	}
	for _, name := range []string{"", "Mo", "Mond", "ſun", "Mon ", "xyz", "M\x0fn"} {
		if w, ok := Of(name); w != 0 || ok {
			t.Errorf("Of(%q) = %d", name, w)
		}
	}
}
