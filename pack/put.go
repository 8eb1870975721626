package pack

import "feria/api"

// How many fields of items lines and events have.
const (
	cronFields = 5
	calFields  = 7
)

// putRule puts a rule behind bytes.
func putRule(b []byte, r api.Rule) []byte {
	for _, n := range []int64{r.Start, int64(r.Freq), r.Interval, r.Count} {
		b = putNumber(b, n)
	}
	b = putSigned(b, r.Until)
	b = putList(b, r.Months, putInt)
	b = putList(b, r.Days, func(b []byte, n int) []byte { return putSigned(b, int64(n)) })
	b = putList(b, r.Week, func(b []byte, x api.Nth) []byte { return putInt(putSigned(b, int64(x.N)), x.Day) })
	b = putList(b, r.Hours, putInt)
	b = putList(b, r.Minutes, putInt)
	return putList(b, r.Seconds, putInt)
}

// putList puts a list behind bytes.
func putList[T any](b []byte, l []T, put func(b []byte, x T) []byte) []byte {
	b = putNumber(b, int64(len(l)))
	for _, x := range l {
		b = put(b, x)
	}
	return b
}

// putItem puts an item behind bytes.
func putItem(b []byte, it api.Item) []byte {
	return putInt(putInt(putInt(putInt(b, it.Kind), it.From), it.To), it.Step)
}

// putInt puts a number behind bytes.
func putInt(b []byte, n int) []byte {
	return putNumber(b, int64(n))
}

// putSigned puts a number with a sign behind bytes.
func putSigned(b []byte, n int64) []byte {
	if n < 0 {
		return putNumber(b, 2*(-1-n)+1)
	}
	return putNumber(b, 2*n)
}

// putNumber puts a number behind bytes, its lowest seven bits first.
func putNumber(b []byte, n int64) []byte {
	for n >= 128 {
		b = append(b, byte(n%128)+128)
		n /= 128
	}
	return append(b, byte(n))
}
