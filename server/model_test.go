package server_test

import (
	"math"
	"slices"
	"testing"

	"roster/api"
	"roster/server"
)

// taken is a transaction of the model.
type taken struct {
	number, end int
	of          [3]string
	said        []api.Sent
}

// model is a table as a list that is looked through, as slow as it is plain.
type model struct {
	most, begun int
	l           []taken
}

func (m *model) at(match func(taken) bool) int { return slices.IndexFunc(m.l, match) }

func (m *model) find(of [3]string) (int, bool) {
	i := m.at(func(x taken) bool { return x.of == of })
	if i < 0 {
		return 0, false
	}
	return m.l[i].number, true
}

func (m *model) start(of [3]string, now int) (int, api.Errno) {
	_, there := m.find(of)
	switch {
	case now < 0 || now > 1<<40-320:
		return 0, 1
	case there:
		return 0, 7
	case len(m.l) == m.most:
		return 0, 5
	}
	m.begun++
	m.l = append(m.l, taken{number: m.begun, end: now + 320, of: of})
	return m.begun, 0
}

func (m *model) answer(id int, s api.Sent) api.Errno {
	i := m.at(func(x taken) bool { return x.number == id })
	switch {
	case i < 0:
		return 6
	case len(m.l[i].said) > 0:
		return 7
	}
	m.l[i].said = []api.Sent{s}
	return 0
}

func (m *model) cached(id int) (api.Sent, bool) {
	i := m.at(func(x taken) bool { return x.number == id })
	if i < 0 || len(m.l[i].said) == 0 {
		return api.Sent{}, false
	}
	return m.l[i].said[0], true
}

func (m *model) expire(now int) []int {
	var over []int
	var left []taken
	for _, x := range m.l {
		if x.end <= now {
			over = append(over, x.number)
		} else {
			left = append(left, x)
		}
	}
	m.l = left
	return over
}

// both are a table and its model, which are asked the same.
type both struct {
	s *server.Table
	m *model
}

func pair(t *testing.T, most int) both {
	t.Helper()
	return both{table(t, most), &model{most: most}}
}

func (b both) start(t *testing.T, of [3]string, now int) {
	t.Helper()
	n, err := b.m.start(of, now)
	starts(t, b.s, of[0], of[1], of[2], now, n, err)
}

func (b both) answer(t *testing.T, id int, s api.Sent) {
	t.Helper()
	answers(t, b.s, id, s, b.m.answer(id, s))
}

func (b both) expire(t *testing.T, now int) {
	t.Helper()
	expires(t, b.s, now, b.m.expire(now)...)
}

// look holds all against each other that can be asked without a change.
func (b both) look(t *testing.T, requests [][3]string) {
	t.Helper()
	holds(t, b.s, len(b.m.l))
	for _, of := range requests {
		want, there := b.m.find(of)
		if n, ok := b.s.Find(of[0], of[1], of[2]); n != want || ok != there {
			t.Errorf("Find(%q) = %d, %t, not %d, %t", of, n, ok, want, there)
		}
	}
	for id := -1; id <= b.m.begun+1; id++ {
		want, there := b.m.cached(id)
		cached(t, b.s, id, want, there)
	}
	if t.Failed() {
		t.FailNow()
	}
}

// steps is how many calls step has: three requests at three ticks, two answers to three numbers, four ticks that go by.
const steps = 3*3 + 2*3 + 4

// step makes one of a few calls, told by a number.
func (b both) step(t *testing.T, n int) {
	t.Helper()
	requests := [][3]string{{"b", "c", "X"}, {"d", "c", "X"}, {"b", "c", "Y"}}
	switch {
	case n < 9:
		b.start(t, requests[n/3], n%3)
	case n < 15:
		b.answer(t, (n-9)/2+1, []api.Sent{{}, {To: "a", Bytes: "x"}}[n%2])
	default:
		b.expire(t, 319+n-15)
	}
}

func TestP11_4AllShortRuns(t *testing.T) {
	requests := [][3]string{{"b", "c", "X"}, {"d", "c", "X"}, {"b", "c", "Y"}}
	for most := 1; most <= 2; most++ {
		runs := 1
		for length := 1; length <= 4; length++ {
			runs *= steps
			for run := range runs {
				b := pair(t, most)
				for n, left := run, length; left > 0; left-- {
					b.step(t, n%steps)
					n /= steps
				}
				b.look(t, requests)
				b.expire(t, 322)
				b.look(t, requests)
			}
		}
	}
}

// draws are numbers that look chosen by chance but are the same each time.
type draws uint64

func (d *draws) below(n int) int {
	*d = *d*6364136223846793005 + 1442695040888963407
	return int(uint64(*d)>>33) % n
}

func TestP11_4LongRuns(t *testing.T) {
	requests := near()
	for _, x := range []struct{ most, requests, forward int }{{1, 3, 400}, {3, 5, 200}, {20, len(requests), 30}, {200, len(requests), 3}} {
		d := draws(x.most)
		b := pair(t, x.most)
		now := 0
		for range 4000 {
			switch n := d.below(20); {
			case n < 8:
				b.start(t, requests[d.below(x.requests)], now+d.below(50)-5)
			case n < 14:
				b.answer(t, b.m.begun-d.below(2*x.most+3)+1, api.Sent{To: name(d.below(40)), Bytes: name(d.below(40))})
			case n < 18:
				now += d.below(x.forward)
				b.expire(t, now)
			case n == 18:
				b.start(t, requests[d.below(x.requests)], []int{-1, 1 << 40, math.MinInt, math.MaxInt}[d.below(4)])
			default:
				b.expire(t, now+d.below(2000)-1900)
			}
			holds(t, b.s, len(b.m.l))
			if t.Failed() {
				t.FailNow()
			}
		}
		b.look(t, requests)
		b.expire(t, math.MaxInt)
		b.look(t, requests)
	}
}

func TestP11_4RunsOfAFullTable(t *testing.T) {
	d := draws(9)
	b := pair(t, 200)
	var requests [][3]string
	for i := range 400 {
		requests = append(requests, [3]string{name(i), "c", "X"})
	}
	full := 0
	now := 0
	for range 6000 {
		switch n := d.below(10); {
		case n < 8:
			b.start(t, requests[d.below(400)], now)
		case n == 8:
			b.answer(t, b.m.begun-d.below(300), api.Sent{To: "a", Bytes: name(d.below(400))})
		default:
			now += d.below(10)
			b.expire(t, now)
		}
		if b.s.Len() == 200 {
			full++
		}
		if t.Failed() {
			t.FailNow()
		}
	}
	b.look(t, requests)
	if full < 1000 {
		t.Errorf("full %d times only", full)
	}
}
