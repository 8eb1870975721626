package pack

import "feria/api"

// next takes a byte.
func (t *taker) next() byte {
	if t.at >= len(t.b) {
		panic(fault{len(t.b), api.ErrEnd})
	}
	t.at++
	return t.b[t.at-1]
}

// raw takes a number's groups of seven bits, no more than it needs.
func (t *taker) raw() int64 {
	from := t.at
	var n int64
	for i := range mostBytes {
		c := t.next()
		n |= int64(c%128) << (7 * i)
		switch {
		case c == 0 && i > 0:
			panic(fault{from, api.ErrForm})
		case c < 128:
			return n
		}
	}
	panic(fault{from, api.ErrForm})
}

// upTo takes a number without a sign that may not be greater than most.
func (t *taker) upTo(most int64) int64 {
	from := t.at
	n := t.raw()
	if n > most {
		panic(fault{from, api.ErrRange})
	}
	return n
}

// number takes a number without a sign.
func (t *taker) number() int64 {
	return t.upTo(greatest)
}

// whole takes a number without a sign as an int.
func (t *taker) whole() int {
	return int(t.number())
}

// signed takes a number with a sign.
func (t *taker) signed() int64 {
	n := t.raw()
	if n%2 == 1 {
		return -1 - n/2
	}
	return n / 2
}

// list takes a list.
func list[T any](t *taker, one func() T) []T {
	from := t.at
	many := t.number()
	if many > longest {
		panic(fault{from, api.ErrLong})
	}
	var l []T
	for range many {
		l = append(l, one())
	}
	return l
}

// item takes an item.
func (t *taker) item() api.Item {
	var it api.Item
	it.Kind = t.whole()
	it.From = t.whole()
	it.To = t.whole()
	it.Step = t.whole()
	return it
}

// cron takes a line.
func (t *taker) cron() api.Cron {
	var l [cronFields][]api.Item
	for f := range l {
		l[f] = list(t, t.item)
	}
	return api.Cron{Minute: l[0], Hour: l[1], Day: l[2], Month: l[3], Week: l[4]}
}

// cal takes an event.
func (t *taker) cal() api.Cal {
	var l [calFields][]api.Item
	for f := range l {
		l[f] = list(t, t.item)
	}
	back := t.upTo(1) == 1
	return api.Cal{Week: l[0], Year: l[1], Month: l[2], Day: l[3], Back: back, Hour: l[4], Minute: l[5], Second: l[6]}
}

// rule takes a rule.
func (t *taker) rule() api.Rule {
	var r api.Rule
	r.Start = t.number()
	r.Freq = t.whole()
	r.Interval = t.number()
	r.Count = t.number()
	r.Until = t.signed()
	r.Months = list(t, t.whole)
	r.Days = list(t, func() int { return int(t.signed()) })
	r.Week = list(t, func() api.Nth {
		n := int(t.signed())
		return api.Nth{N: n, Day: t.whole()}
	})
	r.Hours = list(t, t.whole)
	r.Minutes = list(t, t.whole)
	r.Seconds = list(t, t.whole)
	return r
}
