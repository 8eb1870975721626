package recall

import "testing"

func TestOf(t *testing.T) {
	made := 0
	square := Of(func(n int) int { made++; return n * n })
	for range 3 {
		for n := range most {
			if square(n) != n*n {
				t.Fatalf("of %d", n)
			}
		}
	}
	if made != most {
		t.Errorf("made %d times", made)
	}
	if square(most) != most*most || square(0) != 0 || made != most+2 {
		t.Errorf("forgotten, and made again: %d", made)
	}
}
