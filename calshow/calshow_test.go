package calshow

import (
	"math/rand"
	"slices"
	"testing"

	"feria/api"
	"feria/cal"
	"feria/calread"
)

func star(step int) api.Item { return api.Item{Kind: api.Star, Step: step} }
func one(n int) api.Item     { return api.Item{Kind: api.One, From: n} }
func ranged(from, to, by int) api.Item {
	return api.Item{Kind: api.Range, From: from, To: to, Step: by}
}
func rest(from, by int) api.Item { return api.Item{Kind: api.Rest, From: from, Step: by} }

func TestItemField(t *testing.T) { // 30.1
	for _, c := range []struct {
		it    api.Item
		field int
		want  string
	}{
		{star(1), 3, "*"}, {star(5), 3, "*"}, {one(7), 4, "07"}, {one(17), 4, "17"}, {one(0), 6, "00"}, {one(123), 4, "123"}, {one(-3), 4, "-3"}, {one(-3), 1, "-3"}, {one(1970), 1, "1970"}, {one(70), 1, "0070"}, {one(12345), 1, "12345"},
		{ranged(1, 9, 1), 2, "01..09"}, {ranged(1, 9, 2), 2, "01..09/2"}, {ranged(1970, 2000, 10), 1, "1970..2000/10"}, {rest(5, 3), 5, "05/3"}, {rest(2000, 4), 1, "2000/4"}, {ranged(1, 9, 0), 2, "01..09/0"},
		{one(1), 0, "Mon"}, {ranged(1, 5, 1), 0, "Mon..Fri"}, {one(8), 0, ""}, {one(0), 0, ""}, {rest(7, 2), 0, "Sun/2"},
		{api.Item{Kind: 4, From: 1}, 3, ""}, {api.Item{Kind: -1, From: 1}, 0, ""}, {one(5), 99, "05"}, {one(5), -1, "05"},
	} {
		if got := Item(c.it, c.field); got != c.want {
			t.Errorf("Item(%v, %d) = %q, want %q", c.it, c.field, got, c.want)
		}
	}
	c := api.Cal{Week: []api.Item{one(1), ranged(3, 5, 1)}, Day: []api.Item{one(1), rest(5, 2)}}
	if Field(c, 0) != "Mon,Wed..Fri" || Field(c, 3) != "01,05/2" || Field(c, 1) != "" || Field(c, 7) != "" || Field(c, -1) != "" {
		t.Error("Field")
	}
}

func TestShow(t *testing.T) { // 30.2
	for s, want := range map[string]string{
		"9:30": "*-*-* 09:30:00", "Mon..Fri 9:30": "Mon..Fri *-*-* 09:30:00", "*-2~1": "*-02~01 00:00:00", "monthly": "*-*-01 00:00:00", "sun,SAT 1970,1999..2000-*-* *:*:*": "Sun,Sat 1970,1999..2000-*-* *:*:*",
	} {
		c, _, e := calread.Read(s)
		if got, wrong := Show(c); got != want || e != api.OK || wrong != api.OK {
			t.Errorf("Show of %q: %q, %v", s, got, wrong)
		}
	}
	c, _, _ := calread.Read("daily")
	for _, x := range []struct {
		its []api.Item
		e   api.Errno
	}{{nil, api.ErrLack}, {slices.Repeat([]api.Item{one(3)}, 65), api.ErrLong}, {[]api.Item{star(2)}, api.ErrArg}} {
		c.Day = x.its
		if s, e := Show(c); s != "" || e != x.e {
			t.Errorf("Show: %q, %v; want %v", s, e, x.e)
		}
	}
}

// some is an event by chance that may be.
func some(r *rand.Rand) api.Cal {
	list := func(f int) []api.Item {
		lo, hi := cal.Bounds(f)
		if r.Intn(3) == 0 {
			if f == 0 {
				return nil
			}
			return []api.Item{star(1)}
		}
		var its []api.Item
		for range 1 + r.Intn(5)*r.Intn(14) {
			a, b := lo+r.Intn(hi-lo+1), lo+r.Intn(hi-lo+1)
			kinds := []api.Item{one(a), ranged(min(a, b), max(a, b), 1), ranged(min(a, b), max(a, b), 1+r.Intn(999)), rest(a, 1+r.Intn(999))}
			if f == 0 {
				kinds = kinds[:2]
			}
			its = append(its, kinds[r.Intn(len(kinds))])
		}
		return its
	}
	return api.Cal{Week: list(0), Year: list(1), Month: list(2), Day: list(3), Back: r.Intn(2) == 0, Hour: list(4), Minute: list(5), Second: list(6)}
}

func TestThereAndBack(t *testing.T) { // 30.3
	r := rand.New(rand.NewSource(30))
	for range 3000 {
		c := some(r)
		s, e := Show(c)
		got, n, wrong := calread.Read(s)
		if e != api.OK || wrong != api.OK || n != len(s) || !cal.Same(got, c) {
			t.Fatalf("%+v: %q, %v: %+v, %d, %v", c, s, e, got, n, wrong)
		}
	}
	for _, s := range []string{"hourly", "Mon,TUE..wed 5-1/3", "1:2", "*-1~01..9/2 0..5/2:*:07"} {
		c, _, e := calread.Read(s)
		shown, _ := Show(c)
		again, _, _ := calread.Read(shown)
		if e != api.OK || !cal.Same(c, again) {
			t.Errorf("%q: %q", s, shown)
		}
	}
}
