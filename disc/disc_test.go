package disc

import (
	"math"
	"math/rand"
	"slices"
	"testing"
)

func list(d *Disc) []int { return slices.Collect(d.All()) }

func TestOfPutJoinKeep(t *testing.T) { // 15.1
	d := Of(90, 5, 5, -1, 86400, 86399, math.MaxInt, math.MinInt)
	if !slices.Equal(list(d), []int{5, 90, 86399}) {
		t.Errorf("Of: %v", list(d))
	}
	if n := d.Put(5, 6, 6, 7, -1, 86400); n != 2 || !slices.Equal(list(d), []int{5, 6, 7, 90, 86399}) {
		t.Errorf("Put: %d, %v", n, list(d))
	}
	if d.Put() != 0 || len(list(Of())) != 0 {
		t.Error("Put, Of nothing")
	}
	d.Join()
	d.Join(Of(1), nil, d, Of(100))
	if !slices.Equal(list(d), []int{1, 5, 6, 7, 90, 100, 86399}) {
		t.Errorf("Join: %v", list(d))
	}
	d.Keep()
	d.Keep(Of(1, 5, 6, 100), d, Of(5, 100, 3))
	if !slices.Equal(list(d), []int{5, 100}) {
		t.Errorf("Keep: %v", list(d))
	}
	d.Keep(d, nil)
	if d.Len() != 0 {
		t.Error("Keep of a nil one")
	}
}

func TestHasLenNextPrevAll(t *testing.T) { // 15.2
	r := rand.New(rand.NewSource(15))
	for _, n := range []int{0, 1, 3, 50, 5000} {
		in := map[int]bool{}
		d := Of()
		for range n {
			s := r.Intn(86400)
			in[s] = true
			d.Put(s)
		}
		d.Put(0, 63, 64, 86399)
		for _, s := range []int{0, 63, 64, 86399} {
			in[s] = true
		}
		if d.Len() != len(in) || len(list(d)) != len(in) || !slices.IsSorted(list(d)) {
			t.Fatalf("Len: %d, want %d", d.Len(), len(in))
		}
		next := 86399
		for s := 86399; s >= 0; s-- {
			if in[s] {
				next = s
			}
			if got, ok := d.Next(s); got != next || !ok || d.Has(s) != in[s] {
				t.Fatalf("Next(%d) = %d, %v", s, got, ok)
			}
		}
		prev := 0
		for s := range 86400 {
			if in[s] {
				prev = s
			}
			if got, ok := d.Prev(s); got != prev || !ok {
				t.Fatalf("Prev(%d) = %d, %v", s, got, ok)
			}
		}
	}
	d := Of(5, 90)
	for _, c := range []struct {
		s, next, prev int
		n, p          bool
	}{{6, 90, 5, true, true}, {91, 0, 90, false, true}, {4, 5, 0, true, false}, {-1, 5, 0, true, false}, {86400, 0, 90, false, true}, {math.MinInt, 5, 0, true, false}, {math.MaxInt, 0, 90, false, true}} {
		if n, ok := d.Next(c.s); n != c.next || ok != c.n {
			t.Errorf("Next(%d) = %d, %v", c.s, n, ok)
		}
		if n, ok := d.Prev(c.s); n != c.prev || ok != c.p {
			t.Errorf("Prev(%d) = %d, %v", c.s, n, ok)
		}
		if d.Has(c.s) {
			t.Errorf("Has(%d)", c.s)
		}
	}
	seq := d.All()
	d.Put(7)
	for range 2 {
		if got := slices.Collect(seq); !slices.Equal(got, []int{5, 90}) {
			t.Errorf("All is of when it was asked for: %v", got)
		}
	}
	for s := range seq {
		if s != 5 {
			t.Error("more than wanted")
		}
		break
	}
}

func TestEqualLacksDiffer(t *testing.T) { // 15.3, 15.4
	r := rand.New(rand.NewSource(16))
	for range 300 {
		a, b := Of(), Of()
		for range 20 {
			s := r.Intn(86400)
			a.Put(s)
			b.Put(s)
		}
		for range r.Intn(3) {
			a.Put(r.Intn(86400))
		}
		for range r.Intn(3) {
			b.Put(r.Intn(86400))
		}
		ab, ba := 86400, 86400
		for s := range 86400 {
			if a.Has(s) && !b.Has(s) {
				ab = min(ab, s)
			}
			if b.Has(s) && !a.Has(s) {
				ba = min(ba, s)
			}
		}
		x, xok := Lacks(a, b)
		y, yok := Lacks(b, a)
		z, zok := Differ(a, b)
		if xok != (ab < 86400) || xok && x != ab || yok != (ba < 86400) || yok && y != ba || zok != (xok || yok) || zok && z != min(ab, ba) || Equal(a, b) == zok {
			t.Fatalf("%d %v, %d %v, %d %v", x, xok, y, yok, z, zok)
		}
	}
	if s, ok := Lacks(Of(5, 90), Of(5)); s != 90 || !ok {
		t.Error("the example")
	}
}

func TestNil(t *testing.T) { // 15.1 to 15.3
	var d *Disc
	d.Join(Of(5))
	d.Keep(Of(5), nil)
	if d.Put(5, 6) != 0 || d.Has(5) || d.Len() != 0 || len(list(d)) != 0 {
		t.Error("a nil disc stays empty")
	}
	if _, ok := d.Next(0); ok {
		t.Error("Next")
	}
	if _, ok := d.Prev(9); ok {
		t.Error("Prev")
	}
	if !Equal(d, nil) || !Equal(d, Of()) || !Equal(Of(), d) || Equal(d, Of(3)) || Equal(Of(3), d) {
		t.Error("Equal")
	}
	if s, ok := Lacks(Of(3), nil); s != 3 || !ok {
		t.Error("Lacks")
	}
	if s, ok := Differ(nil, Of(3)); s != 3 || !ok {
		t.Error("Differ")
	}
	if s, ok := Lacks(nil, Of(3)); s != 0 || ok {
		t.Error("Lacks of nil")
	}
}
