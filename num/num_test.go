package num

import (
	"math"
	"math/big"
	"testing"
)

const (
	least = math.MinInt64
	most  = math.MaxInt64
)

var edges = []int64{least, least + 1, -86400, -7, -2, -1, 0, 1, 2, 3, 7, 60, 86400, 1 << 31, 1 << 32, most - 1, most}

func TestFloorAndMod(t *testing.T) { // 1.1, 1.5
	for _, a := range edges {
		for _, b := range edges {
			q, m := Floor(a, b), Mod(a, b)
			if b < 1 {
				if q != 0 || m != 0 {
					t.Errorf("Floor, Mod of %d, %d: %d, %d", a, b, q, m)
				}
				continue
			}
			if m < 0 || m >= b || q*b+m != a {
				t.Errorf("Floor, Mod of %d, %d: %d, %d", a, b, q, m)
			}
		}
	}
	if Floor(-1, 7) != -1 || Mod(-1, 7) != 6 || Floor(13, 7) != 1 || Mod(13, 7) != 6 || Floor(-14, 7) != -2 {
		t.Error("ordinary numbers")
	}
}

func TestGcd(t *testing.T) { // 1.2
	for _, c := range []struct {
		ns   []int64
		want uint64
	}{
		{nil, 0}, {[]int64{0, 0}, 0}, {[]int64{12, -18}, 6}, {[]int64{-5}, 5}, {[]int64{0, 9, 0}, 9},
		{[]int64{least}, 1 << 63}, {[]int64{least, 0, least}, 1 << 63}, {[]int64{least, 96}, 32}, {[]int64{8, 12, 9}, 1},
	} {
		if got := Gcd(c.ns...); got != c.want {
			t.Errorf("Gcd(%v) = %d, want %d", c.ns, got, c.want)
		}
	}
}

func TestSum(t *testing.T) { // 1.3
	for _, c := range []struct {
		ns   []int64
		want int64
		ok   bool
	}{
		{nil, 0, true}, {[]int64{1, -2, 3}, 2, true}, {[]int64{most, 1, -1}, 0, false}, {[]int64{most, -1, 1}, most, true},
		{[]int64{least, -1}, 0, false}, {[]int64{least, 0, most}, -1, true}, {[]int64{0, 0}, 0, true},
	} {
		if got, ok := Sum(c.ns...); got != c.want || ok != c.ok {
			t.Errorf("Sum(%v) = %d, %v", c.ns, got, ok)
		}
	}
}

func TestTimes(t *testing.T) { // 1.3
	for _, a := range append(edges, 3037000499, 3037000500, -3037000500) {
		for _, b := range append(edges, 3037000499, 3037000500, 3037000501) {
			want := new(big.Int).Mul(big.NewInt(a), big.NewInt(b))
			got, ok := Times(a, b)
			if ok != want.IsInt64() || ok && got != want.Int64() || !ok && got != 0 {
				t.Errorf("Times(%d, %d) = %d, %v", a, b, got, ok)
			}
		}
	}
}

func TestHeld(t *testing.T) { // 1.4
	for _, c := range [][4]int64{{5, 1, 9, 5}, {0, 1, 9, 1}, {10, 1, 9, 9}, {5, 9, 1, 1}, {least, 0, most, 0}, {most, least, -1, -1}} {
		if got := Held(c[0], c[1], c[2]); got != c[3] {
			t.Errorf("Held of %v: %d", c, got)
		}
	}
}
