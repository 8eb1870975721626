package monthdays

import (
	"testing"

	"feria/mask"
)

func TestOf(t *testing.T) {
	for _, c := range []struct {
		months uint64
		length int
	}{{0, 0}, {mask.Of(2), 29}, {mask.Of(4), 30}, {mask.Of(2, 4), 30}, {mask.Of(2, 12), 31}, {mask.Of(0, 13, 63), 0}} {
		if Of(c.months) != mask.Span(1, c.length, 1) {
			t.Errorf("Of(%b) = %b", c.months, Of(c.months))
		}
	}
}
