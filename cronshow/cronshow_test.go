package cronshow

import (
	"math/rand"
	"slices"
	"testing"

	"feria/api"
	"feria/cron"
	"feria/cronread"
)

func star(step int) api.Item { return api.Item{Kind: api.Star, Step: step} }
func one(n int) api.Item     { return api.Item{Kind: api.One, From: n} }
func ranged(from, to, by int) api.Item {
	return api.Item{Kind: api.Range, From: from, To: to, Step: by}
}

func TestItemField(t *testing.T) { // 26.1
	for _, c := range []struct {
		it   api.Item
		want string
	}{
		{star(1), "*"}, {star(15), "*/15"}, {one(7), "7"}, {ranged(9, 17, 1), "9-17"}, {ranged(0, 59, 30), "0-59/30"}, {api.Item{Kind: api.Rest, From: 5, Step: 2}, ""}, {api.Item{Kind: 9}, ""}, {api.Item{Kind: -1, Step: 5}, ""},
		{star(0), "*/0"}, {one(-3), "-3"}, {ranged(5, 3, -1), "5-3/-1"},
	} {
		if got := Item(c.it); got != c.want {
			t.Errorf("Item(%v) = %q", c.it, got)
		}
	}
	if Field(nil) != "" || Field([]api.Item{one(3)}) != "3" || Field([]api.Item{one(3), star(2), ranged(1, 2, 1)}) != "3,*/2,1-2" {
		t.Error("Field")
	}
}

func TestShow(t *testing.T) { // 26.2
	c := api.Cron{Minute: []api.Item{star(15)}, Hour: []api.Item{ranged(9, 17, 1), one(20)}, Day: []api.Item{star(1)}, Month: []api.Item{one(1)}, Week: []api.Item{ranged(1, 5, 1)}}
	if s, e := Show(c); s != "*/15 9-17,20 * 1 1-5" || e != api.OK {
		t.Errorf("Show: %q, %v", s, e)
	}
	for _, x := range []struct {
		its []api.Item
		e   api.Errno
	}{{nil, api.ErrLack}, {slices.Repeat([]api.Item{one(3)}, 65), api.ErrLong}, {[]api.Item{one(32)}, api.ErrArg}} {
		c.Day = x.its
		if s, e := Show(c); s != "" || e != x.e {
			t.Errorf("Show: %q, %v; want %v", s, e, x.e)
		}
	}
}

// some is a line by chance that may be.
func some(r *rand.Rand) api.Cron {
	list := func(f int) []api.Item {
		lo, hi := cron.Bounds(f)
		var its []api.Item
		for range 1 + r.Intn(5)*r.Intn(14) {
			a, b := lo+r.Intn(hi-lo+1), lo+r.Intn(hi-lo+1)
			its = append(its, []api.Item{star(1 + r.Intn(999)), one(a), ranged(min(a, b), max(a, b), 1+r.Intn(9)), star(1)}[r.Intn(4)])
		}
		return its
	}
	return api.Cron{Minute: list(0), Hour: list(1), Day: list(2), Month: list(3), Week: list(4)}
}

func TestThereAndBack(t *testing.T) { // 26.3
	r := rand.New(rand.NewSource(26))
	for range 3000 {
		c := some(r)
		s, e := Show(c)
		got, n, wrong := cronread.Read(s)
		if e != api.OK || wrong != api.OK || n != len(s) || !cron.Same(got, c) {
			t.Fatalf("%+v: %q, %v: %+v, %d, %v", c, s, e, got, n, wrong)
		}
	}
	for _, s := range []string{" 05 */001 jan * *", "5 */1 * jan-MAR sun,7 ", "0-0 0-23/5 1,2 * *"} {
		c, _, e := cronread.Read(s)
		shown, _ := Show(c)
		again, _, _ := cronread.Read(shown)
		if e == api.OK && !cron.Same(c, again) {
			t.Errorf("%q: %q", s, shown)
		}
	}
}
