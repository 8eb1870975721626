package span

import (
	"math"
	"math/rand"
	"testing"

	"feria/api"
)

const last = api.End - 1

var empties = []Span{{0, -1}, {5, 4}, {-9, -1}, {api.End, api.End + 5}, {math.MaxInt64, math.MinInt64}, {math.MinInt64, -1}, {api.End, math.MaxInt64}}

func TestWholeDayEmptyInLenHeld(t *testing.T) { // 9.1
	if Whole() != (Span{0, last}) || Day(0) != (Span{0, 86399}) || Day(146096) != (Span{last - 86399, last}) {
		t.Error("Whole, Day")
	}
	for _, d := range []int64{-1, 146097, math.MinInt64, math.MaxInt64} {
		if !Empty(Day(d)) {
			t.Errorf("Day(%d)", d)
		}
	}
	for _, s := range empties {
		if !Empty(s) || Len(s) != 0 || Held(s) != (Span{0, -1}) || In(s, s.From) || In(s, s.Until) {
			t.Errorf("%v is empty", s)
		}
	}
	for _, c := range []struct {
		s, held Span
		n       int64
	}{{Span{5, 9}, Span{5, 9}, 5}, {Span{7, 7}, Span{7, 7}, 1}, {Span{math.MinInt64, math.MaxInt64}, Whole(), api.End}, {Span{-3, 0}, Span{0, 0}, 1}, {Span{last, api.End}, Span{last, last}, 1}} {
		if Empty(c.s) || Held(c.s) != c.held || Len(c.s) != c.n || !In(c.s, c.held.From) || !In(c.s, c.held.Until) || In(c.s, c.held.From-1) || In(c.s, c.held.Until+1) {
			t.Errorf("%v", c.s)
		}
	}
	if In(Span{math.MinInt64, math.MaxInt64}, -1) || In(Span{math.MinInt64, math.MaxInt64}, api.End) {
		t.Error("instants outside of the window")
	}
}

func TestMeet(t *testing.T) { // 9.2, 9.4
	if Meet() != Whole() || Meet(Span{5, 9}, Span{7, 20}) != (Span{7, 9}) || Meet(Span{5, 9}, Span{10, 20}) != (Span{0, -1}) || Meet(Span{-5, 9}) != (Span{0, 9}) {
		t.Error("Meet")
	}
	r := rand.New(rand.NewSource(9))
	for range 2000 {
		var ss []Span
		for range r.Intn(4) {
			ss = append(ss, Span{int64(r.Intn(30) - 5), int64(r.Intn(30) - 5)})
		}
		m := Meet(ss...)
		for x := int64(-6); x < 30; x++ {
			all := x >= 0
			for _, s := range ss {
				all = all && In(s, x)
			}
			if In(m, x) != all {
				t.Fatalf("Meet(%v) = %v: %d", ss, m, x)
			}
		}
	}
}

func TestDaysCut(t *testing.T) { // 9.3
	if a, b, ok := Days(Span{86399, 86400}); a != 0 || b != 1 || !ok {
		t.Error("the example")
	}
	if a, b, ok := Days(Span{-5, math.MaxInt64}); a != 0 || b != 146096 || !ok {
		t.Error("Days of the window")
	}
	for _, s := range empties {
		if a, b, ok := Days(s); a != 0 || b != 0 || ok {
			t.Errorf("Days(%v)", s)
		}
		if a, b, ok := Cut(s, 0); a != 0 || b != 0 || ok {
			t.Errorf("Cut(%v)", s)
		}
	}
	for _, c := range []struct {
		s      Span
		day    int64
		lo, hi int
		ok     bool
	}{{Span{100, 2 * 86400}, 0, 100, 86399, true}, {Span{100, 2 * 86400}, 1, 0, 86399, true}, {Span{100, 2 * 86400}, 2, 0, 0, true}, {Span{100, 2 * 86400}, 3, 0, 0, false},
		{Whole(), -1, 0, 0, false}, {Whole(), 146097, 0, 0, false}, {Span{86400 + 5, 86400 + 9}, 1, 5, 9, true}, {Span{86400 + 5, 86400 + 9}, 0, 0, 0, false}} {
		if lo, hi, ok := Cut(c.s, c.day); lo != c.lo || hi != c.hi || ok != c.ok {
			t.Errorf("Cut(%v, %d) = %d, %d, %v", c.s, c.day, lo, hi, ok)
		}
	}
}
