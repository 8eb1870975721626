package pack

import (
	"bytes"
	"math/rand"
	"reflect"
	"slices"
	"testing"

	"feria/api"
	"feria/plan"
)

func read(t *testing.T, s string) api.Plan {
	t.Helper()
	p, e := plan.Guess(s)
	if e != api.OK {
		t.Fatalf("%q: %v", s, e)
	}
	return p
}

func star() []api.Item { return []api.Item{{Kind: api.Star, Step: 1}} }

// texts are plans of all languages.
var texts = []string{
	"* * * * *", "*/15 9-17,20 1,31 jan-mar/2 0,7", "daily", "Mon..Fri,Sun 1970,2000..2369/7-02~01..31 *:*:5/7", "*-02-30",
	"DTSTART:19700105T090000Z\nRRULE:FREQ=WEEKLY;BYDAY=MO,FR", "DTSTART:23691231T235959Z\nRRULE:FREQ=SECONDLY;INTERVAL=999999999999999;COUNT=999999999999999", "DTSTART:19700101T000000Z\nRRULE:FREQ=YEARLY;UNTIL=20000101T000000Z;BYMONTH=1,12;BYMONTHDAY=-1,-31;BYDAY=-5MO,-1SU;BYHOUR=0,23;BYMINUTE=0,59;BYSECOND=0,59",
}

func TestPut(t *testing.T) { // 48.1
	for _, c := range []struct {
		p    api.Plan
		want []byte
	}{
		{read(t, "* * * * *"), []byte{'P', 0, 1, 0, 0, 0, 1, 1, 0, 0, 0, 1, 1, 0, 0, 0, 1, 1, 0, 0, 0, 1, 1, 0, 0, 0, 1}},
		{read(t, "5,9 * * * 1-5/2"), []byte{'P', 0, 2, 1, 5, 0, 0, 1, 9, 0, 0, 1, 0, 0, 0, 1, 1, 0, 0, 0, 1, 1, 0, 0, 0, 1, 1, 2, 1, 5, 2}},
		{read(t, "2000-02~* 0:0"), []byte{'P', 1, 0, 1, 1, 0xd0, 15, 0, 0, 1, 1, 2, 0, 0, 1, 0, 0, 0, 1, 1, 1, 0, 0, 0, 1, 1, 0, 0, 0, 1, 1, 0, 0, 0, 1}},
		{api.Plan{Lang: 2, Rule: api.Rule{Start: 300, Freq: 5, Interval: 128, Until: -1, Days: []int{-1, -31}, Week: []api.Nth{{N: -2, Day: 7}}, Hours: []int{0}, Minutes: []int{59}}}, []byte{'P', 2, 0xac, 2, 5, 0x80, 1, 0, 1, 0, 2, 1, 61, 1, 3, 7, 1, 0, 1, 59, 0}},
		{api.Plan{Lang: 2, Rule: api.Rule{Freq: 0, Interval: 1e15, Until: 100, Months: []int{12}, Days: []int{31}, Seconds: []int{1, 2}}}, []byte{'P', 2, 0, 0, 0x80, 0x80, 0x9a, 0xa6, 0xea, 0xaf, 0xe3, 1, 0, 0xc8, 1, 1, 12, 1, 62, 0, 0, 0, 2, 1, 2}},
	} {
		if b, e := Put(c.p); !bytes.Equal(b, c.want) || e != api.OK {
			t.Errorf("Put: %v, %v; want %v", b, e, c.want)
		}
	}
	for _, c := range []struct {
		p api.Plan
		e api.Errno
	}{{api.Plan{Lang: 3}, api.ErrArg}, {api.Plan{Lang: -1}, api.ErrArg}, {api.Plan{}, api.ErrLack}, {api.Plan{Lang: 2}, api.ErrRange}, {api.Plan{Lang: 0, Cron: api.Cron{Minute: slices.Repeat(star(), 65)}}, api.ErrLong}} {
		if b, e := Put(c.p); b != nil || e != c.e {
			t.Errorf("Put: %v, %v", b, e)
		}
	}
}

func TestTakeWrong(t *testing.T) { // 48.2
	rule := func(head ...byte) []byte { return append([]byte{'P', 2}, head...) }
	full := bytes.Repeat([]byte{0x80}, 8)
	lots := bytes.Repeat([]byte{0xff}, 9)
	for i, c := range []struct {
		b  []byte
		at int
		e  api.Errno
	}{
		{nil, 0, api.ErrEnd}, {[]byte{'Q'}, 0, api.ErrForm}, {[]byte{'p', 0}, 0, api.ErrForm}, {[]byte{'P'}, 1, api.ErrEnd}, {[]byte{'P', 3}, 1, api.ErrRange}, {[]byte{'P', 127}, 1, api.ErrRange}, {[]byte{'P', 0x80}, 2, api.ErrEnd}, {[]byte{'P', 0x80, 0}, 1, api.ErrForm}, {[]byte{'P', 0x81, 0x80, 0}, 1, api.ErrForm}, {[]byte{'P', 0x80, 1}, 1, api.ErrRange},
		{[]byte{'P', 0}, 2, api.ErrEnd}, {[]byte{'P', 0, 0x91, 3}, 2, api.ErrLong}, {[]byte{'P', 0, 0x90, 3}, 4, api.ErrEnd}, {[]byte{'P', 0, 1, 0, 0, 0}, 6, api.ErrEnd}, {[]byte{'P', 0, 0, 0, 0, 0, 0}, 7, api.ErrLack}, {[]byte{'P', 0, 0, 0, 0, 0, 0, 7}, 7, api.ErrForm},
		{slices.Concat([]byte{'P', 0}, full), 10, api.ErrEnd}, {slices.Concat([]byte{'P', 0}, lots), 2, api.ErrForm}, {slices.Concat([]byte{'P', 0}, lots, []byte{1}), 2, api.ErrForm}, {slices.Concat([]byte{'P', 0}, full, []byte{0}), 2, api.ErrForm}, {slices.Concat([]byte{'P', 0}, full, []byte{1}), 2, api.ErrRange}, {slices.Concat([]byte{'P'}, lots), 1, api.ErrForm},
		{rule(0x80, 0x80, 0x9a, 0xa6, 0xea, 0xaf, 0xe3, 1, 0), 11, api.ErrEnd}, {rule(0x81, 0x80, 0x9a, 0xa6, 0xea, 0xaf, 0xe3, 1, 0), 2, api.ErrRange}, {rule(0, 3, 1, 0, 1, 0, 0, 0, 0, 0, 0, 5), 13, api.ErrForm}, {rule(0, 9, 1, 0, 1, 0, 0, 0, 0, 0, 0), 13, api.ErrRange}, {rule(0, 4, 1, 0, 1, 0, 1, 2, 0, 0, 0, 0), 14, api.ErrMix}, {rule(0, 3, 1, 0, 1, 0, 0, 1, 0, 8, 0, 0, 0), 15, api.ErrRange},
		{slices.Concat(rule(0, 3, 1, 0), full, []byte{1}), 15, api.ErrEnd}, {slices.Concat(rule(0, 3, 1, 0), lots), 6, api.ErrForm},
		{[]byte{'P', 1, 0, 0, 0, 0, 0, 0, 0, 2}, 9, api.ErrRange}, {[]byte{'P', 1, 0, 0, 0, 0, 0, 0, 0}, 9, api.ErrEnd}, {[]byte{'P', 1, 0, 0, 0, 0, 0, 0, 0, 1}, 10, api.ErrLack}, {[]byte{'P', 1, 0, 0, 0, 0, 0, 0, 0, 0x80, 0}, 9, api.ErrForm},
	} {
		if p, at, e := Take(c.b); !reflect.DeepEqual(p, api.Plan{}) || at != c.at || e != c.e {
			t.Errorf("Take %d, of %v: %d, %v; want %d, %v", i, c.b, at, e, c.at, c.e)
		}
	}
	long := []byte{'P', 0, 65}
	for range 65 {
		long = append(long, 1, 5, 0, 0)
	}
	for range 4 {
		long = append(long, 1, 0, 0, 0, 1)
	}
	if _, at, e := Take(long); at != len(long) || e != api.ErrLong {
		t.Errorf("a list of 65: %d, %v", at, e)
	}
}

func TestSum(t *testing.T) { // 48.3
	for want, b := range map[uint32][]byte{0: nil, 775: {0, 2}, 257: {0}, 512: {255}, 1*257 + 2*258 + 3*259: {0, 1, 2}} {
		if got := Sum(b); got != want {
			t.Errorf("Sum(%v) = %d, want %d", b, got, want)
		}
	}
	var plain uint64
	b := bytes.Repeat([]byte{255, 7}, 100000)
	for i, c := range b {
		plain += uint64(i+1) * (uint64(c) + 257)
	}
	if plain < 1<<32 || Sum(b) != uint32(plain) {
		t.Error("a sum beyond 2^32")
	}
}

func TestThereAndBack(t *testing.T) { // 48.4, 48.2
	r := rand.New(rand.NewSource(48))
	taken := 0
	for _, s := range texts {
		p := read(t, s)
		b, e := Put(p)
		if e != api.OK {
			t.Fatalf("%q: %v", s, e)
		}
		q, n, e := Take(b)
		if e != api.OK || n != len(b) || !plan.Same(p, q) {
			t.Fatalf("%q: %+v, %d, %v", s, q, n, e)
		}
		for n := range b {
			if _, at, e := Take(b[:n]); e != api.ErrEnd || at != n {
				t.Fatalf("%q cut at %d: %d, %v", s, n, at, e)
			}
		}
		for range 3000 {
			c := slices.Clone(b)
			c[r.Intn(len(c))] = byte(r.Intn(256))
			q, n, e := Take(c)
			if e != api.OK {
				if n < 0 || n > len(c) || !reflect.DeepEqual(q, api.Plan{}) {
					t.Fatalf("%v: %d, %v", c, n, e)
				}
				continue
			}
			taken++
			if again, e := Put(q); e != api.OK || !bytes.Equal(again, c) {
				t.Fatalf("%v: %v, %v", c, again, e)
			}
		}
	}
	if taken < 1000 {
		t.Errorf("%d were taken", taken)
	}
	large := api.Plan{Lang: 2, Rule: api.Rule{Freq: 3, Interval: 1e15, Count: 1e15, Until: -1}}
	b, e := Put(large)
	if q, _, wrong := Take(b); e != api.OK || wrong != api.OK || !plan.Same(large, q) {
		t.Errorf("the greatest numbers: %v, %v", e, wrong)
	}
}
