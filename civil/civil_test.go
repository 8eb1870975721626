package civil

import (
	"math"
	"testing"
	"time"
)

func TestLeapLength(t *testing.T) { // 5.1
	for _, y := range []int64{2000, 2400, 1600, 0, 2024, -4, -400, 1972} {
		if !Leap(y) || Length(y, 2) != 29 {
			t.Errorf("%d is a leap year", y)
		}
	}
	for _, y := range []int64{1900, 2100, 1970, 2023, -1, -100, 1, math.MaxInt64} {
		if Leap(y) || Length(y, 2) != 28 {
			t.Errorf("%d is none", y)
		}
	}
	for m, want := range []int{0, 31, 28, 31, 30, 31, 30, 31, 31, 30, 31, 30, 31, 0} {
		if got := Length(1970, m); got != want {
			t.Errorf("Length of %d: %d", m, got)
		}
	}
	if Length(1970, -1) != 0 || Length(1970, math.MaxInt) != 0 {
		t.Error("Length of no month")
	}
}

func TestNumberDateOrdinal(t *testing.T) { // 5.2, 5.4
	for n := int64(-800000); n < 400000; n++ {
		d := time.Unix(n*86400, 0).UTC()
		y, m, day, ok := Date(n)
		if !ok || int(y) != d.Year() || m != int(d.Month()) || day != d.Day() {
			t.Fatalf("Date(%d) = %d, %d, %d, %v", n, y, m, day, ok)
		}
		if got, ok := Number(y, m, day); got != n || !ok {
			t.Fatalf("Number(%d, %d, %d) = %d, %v", y, m, day, got, ok)
		}
		if o, ok := Ordinal(y, m, day); o != d.YearDay() || !ok {
			t.Fatalf("Ordinal(%d, %d, %d) = %d, %v", y, m, day, o, ok)
		}
	}
	if n, ok := Number(2000, 2, 29); n != 11016 || !ok {
		t.Error("the example")
	}
}

func TestFarYears(t *testing.T) { // 5.2
	last, ok := Number(1000000000, 12, 31)
	if !ok {
		t.Fatal("the last year")
	}
	first, ok := Number(-1000000000, 1, 1)
	if !ok {
		t.Fatal("the first year")
	}
	if y, m, d, ok := Date(last); y != 1000000000 || m != 12 || d != 31 || !ok {
		t.Error("the last day")
	}
	if y, m, d, ok := Date(first); y != -1000000000 || m != 1 || d != 1 || !ok {
		t.Error("the first day")
	}
	for _, n := range []int64{last + 1, first - 1, last + 400, first - 400, math.MaxInt64, math.MinInt64} {
		if y, m, d, ok := Date(n); y != 0 || m != 0 || d != 0 || ok {
			t.Errorf("Date(%d)", n)
		}
	}
	for _, c := range []struct {
		y    int64
		m, d int
	}{{1000000001, 1, 1}, {-1000000001, 12, 31}, {1970, 0, 1}, {1970, 13, 1}, {1970, 1, 0}, {1970, 1, 32}, {1970, 2, 29}, {math.MaxInt64, 1, 1}, {math.MinInt64, 1, 1}, {1970, 4, math.MaxInt}, {1970, -1, -1}} {
		if n, ok := Number(c.y, c.m, c.d); n != 0 || ok {
			t.Errorf("Number of %v: %d", c, n)
		}
		if n, ok := Ordinal(c.y, c.m, c.d); n != 0 || ok {
			t.Errorf("Ordinal of %v: %d", c, n)
		}
	}
	for y := int64(-1000000000); y < 1000000000; y += 86399999 {
		n, _ := Number(y, 2, Length(y, 2))
		if gy, m, d, ok := Date(n + 1); gy != y || m != 3 || d != 1 || !ok {
			t.Errorf("the day behind February of %d: %d, %d, %d", y, gy, m, d)
		}
	}
}

func TestCycle(t *testing.T) { // 5.3
	for _, c := range [][3]int64{{0, 0, 0}, {146096, 0, 146096}, {146097, 1, 0}, {-1, -1, 146096}, {-146097, -1, 0}, {-146098, -2, 146096}} {
		if times, left := Cycle(c[0]); times != c[1] || left != c[2] {
			t.Errorf("Cycle(%d) = %d, %d", c[0], times, left)
		}
	}
	for _, n := range []int64{math.MinInt64, math.MaxInt64} {
		if times, left := Cycle(n); left < 0 || left > 146096 || times*146097+left != n {
			t.Errorf("Cycle(%d)", n)
		}
	}
}
