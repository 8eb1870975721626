// Package recall keeps what was made of things that come again, so that it is made once.
package recall

// most is how many things are kept: where there would be one more all are forgotten, so that memory has a bound.
const most = 256

// Of is a function that tells of each thing what made tells of it.
func Of[K comparable, V any](made func(K) V) func(K) V {
	known := map[K]V{}
	return func(k K) V {
		v, ok := known[k]
		if !ok {
			if len(known) == most {
				clear(known)
			}
			v = made(k)
			known[k] = v
		}
		return v
	}
}
