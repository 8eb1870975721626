// Package num is layer 1: see shared/doc/01-num.md.
package num

import (
	"math"
	"math/bits"
)

// Floor is a number by another one, cut downwards.
func Floor(a, b int64) int64 {
	if b < 1 {
		return 0
	}
	q := a / b
	if a%b < 0 {
		q--
	}
	return q
}

// Mod is what is left of a number by another one.
func Mod(a, b int64) int64 {
	if b < 1 {
		return 0
	}
	m := a % b
	if m < 0 {
		m += b
	}
	return m
}

// Gcd is the greatest number that divides all.
func Gcd(ns ...int64) uint64 {
	g, _ := fold(0, ns, func(g uint64, n int64) (uint64, bool) {
		x := size(n)
		for x != 0 {
			g, x = x, g%x
		}
		return g, true
	})
	return g
}

// Sum is numbers together.
func Sum(ns ...int64) (int64, bool) {
	return fold(0, ns, func(a, b int64) (int64, bool) {
		c := a + b
		return c, (c > a) == (b > 0)
	})
}

// Times is a number so often.
func Times(a, b int64) (int64, bool) {
	hi, lo := bits.Mul64(size(a), size(b))
	below := (a < 0) != (b < 0)
	switch {
	case hi != 0:
		return 0, false
	case below && lo <= 1<<63:
		return int64(-lo), true
	case lo <= math.MaxInt64:
		return int64(lo), true
	}
	return 0, false
}

// Held is a number within bounds.
func Held(n, lo, hi int64) int64 {
	return min(max(n, lo), hi)
}

// size is a number without its sign: that of the least int64 is no int64.
func size(n int64) uint64 {
	if n < 0 {
		return -uint64(n)
	}
	return uint64(n)
}

// fold makes one of many, from the left; what two makes is nothing as soon as one step fails.
func fold[A any](start A, ns []int64, two func(A, int64) (A, bool)) (A, bool) {
	var none A
	all := start
	for _, n := range ns {
		next, ok := two(all, n)
		if !ok {
			return none, false
		}
		all = next
	}
	return all, true
}
