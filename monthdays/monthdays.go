// Package monthdays is the days of the month that some months have.
package monthdays

import (
	"feria/civil"
	"feria/mask"
)

// leapYear is any year in which each month is as long as it may be.
const leapYear = 2000

// Of is the days of the month, as a mask, that the longest of some months has in a leap year.
func Of(months uint64) uint64 {
	longest := 0
	for m := range mask.All(months) {
		longest = max(longest, civil.Length(leapYear, m))
	}
	return mask.Span(1, longest, 1)
}
