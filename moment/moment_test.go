package moment

import (
	"math"
	"testing"
	"time"

	"feria/api"
)

var outside = []int64{-1, api.End, math.MinInt64, math.MaxInt64}

func TestInSplitJoin(t *testing.T) { // 8.1, 8.4
	for _, x := range outside {
		d, s, ok := Split(x)
		if In(x) || d != 0 || s != 0 || ok {
			t.Errorf("%d is outside", x)
		}
	}
	for x := int64(0); x < api.End; x += 86399*7 + 1 {
		d, s, ok := Split(x)
		if !In(x) || !ok || d != x/86400 || int64(s) != x%86400 {
			t.Fatalf("Split(%d) = %d, %d", x, d, s)
		}
		if got, ok := Join(d, s); got != x || !ok {
			t.Fatalf("Join(%d, %d) = %d", d, s, got)
		}
	}
	if x, ok := Join(146096, 86399); x != api.End-1 || !ok || !In(x) {
		t.Error("the last instant")
	}
	for _, c := range [][2]int64{{-1, 0}, {146097, 0}, {0, -1}, {0, 86400}, {math.MaxInt64, math.MaxInt64}, {math.MinInt64, 5}} {
		if x, ok := Join(c[0], int(c[1])); x != 0 || ok {
			t.Errorf("Join(%v) = %d", c, x)
		}
	}
}

func TestStampOfTexts(t *testing.T) { // 8.2, 8.3, 8.4
	for x := int64(0); x < api.End; x += 86399*11 + 1 {
		d := time.Unix(x, 0).UTC()
		want := api.Stamp{Year: d.Year(), Month: int(d.Month()), Day: d.Day(), Hour: d.Hour(), Minute: d.Minute(), Second: d.Second()}
		s, ok := Stamp(x)
		if s != want || !ok {
			t.Fatalf("Stamp(%d) = %v", x, s)
		}
		if got, ok := Of(s); got != x || !ok {
			t.Fatalf("Of(%v) = %d", s, got)
		}
		if Long(x) != d.Format("2006-01-02 15:04:05") || Basic(x) != d.Format("20060102T150405Z") {
			t.Fatalf("%q, %q", Long(x), Basic(x))
		}
		if got, n, e := Read(Basic(x)); got != x || n != 16 || e != api.OK {
			t.Fatalf("Read(%q) = %d, %d, %v", Basic(x), got, n, e)
		}
	}
	for _, x := range outside {
		if s, ok := Stamp(x); s != (api.Stamp{}) || ok || Long(x) != "" || Basic(x) != "" {
			t.Errorf("texts of %d", x)
		}
	}
	for _, l := range [][6]int{{}, {1969, 12, 31, 23, 59, 59}, {2370, 1, 1, 0, 0, 0}, {1970, 2, 29, 0, 0, 0}, {1970, 1, 1, 24, 0, 0}, {1970, 1, 1, 0, 60, 0}, {1970, 1, 1, 0, 0, 60}, {1970, 1, 1, 0, 0, -1}, {math.MaxInt, math.MaxInt, math.MaxInt, 0, 0, 0}, {math.MinInt, 1, 1, 0, 0, 0}} {
		s := api.Stamp{Year: l[0], Month: l[1], Day: l[2], Hour: l[3], Minute: l[4], Second: l[5]}
		if x, ok := Of(s); x != 0 || ok {
			t.Errorf("Of(%v) = %d", s, x)
		}
	}
	if Basic(86399) != "19700101T235959Z" || Long(86400) != "1970-01-02 00:00:00" || Long(api.End-1) != "2369-12-31 23:59:59" {
		t.Error("the examples")
	}
}

func TestReadWrong(t *testing.T) { // 8.3
	for _, c := range []struct {
		s  string
		at int
		e  api.Errno
	}{
		{"", 0, api.ErrEnd}, {"1970", 4, api.ErrEnd}, {"19700101", 8, api.ErrEnd}, {"19700101T00000", 14, api.ErrEnd},
		{"x", 0, api.ErrForm}, {"1970010xT000000Z", 7, api.ErrForm}, {"19700101t000000Z", 8, api.ErrForm}, {"197001010000000Z", 8, api.ErrForm},
		{"19700101T00000Z", 14, api.ErrForm}, {"99999999T99999x", 14, api.ErrForm}, {"1970/", 4, api.ErrForm}, {"-970", 0, api.ErrForm},
		{"19700101T000000", 15, api.ErrZone}, {"19700101T000000z", 15, api.ErrZone}, {"19700101T000000ZZ", 16, api.ErrZone}, {"19700101T000000+0", 15, api.ErrZone},
		{"19690101T000000Z", 0, api.ErrRange}, {"23700101T000000Z", 0, api.ErrRange}, {"19700229T000000", 0, api.ErrRange}, {"19700101T240000Zx", 0, api.ErrRange}, {"19700101T000060Z", 0, api.ErrRange},
	} {
		if x, at, e := Read(c.s); x != 0 || at != c.at || e != c.e {
			t.Errorf("Read(%q) = %d, %d, %v", c.s, x, at, e)
		}
	}
}
