package client_test

import (
	"cmp"
	"math"
	"slices"
	"testing"

	"roster/api"
	"roster/client"
)

// asked is a transaction of the model; told is how many of its ticks were told, and end when its rest is over, -1 while it waits.
type asked struct {
	number, first, told, end int
	branch                   string
	request                  api.Sent
}

// model is a table as a list that is looked through, as slow as it is plain.
type model struct {
	most, begun int
	l           []asked
}

func (m *model) at(branch string) int {
	return slices.IndexFunc(m.l, func(x asked) bool { return x.branch == branch })
}

func (m *model) start(branch string, now int, s api.Sent) (int, api.Errno) {
	switch {
	case now < 0 || now > 1<<40-640:
		return 0, 1
	case m.at(branch) >= 0:
		return 0, 7
	case len(m.l) == m.most:
		return 0, 5
	}
	m.begun++
	m.l = append(m.l, asked{number: m.begun, first: now, end: -1, branch: branch, request: s})
	return m.begun, 0
}

func (m *model) response(branch string, status, now int) (int, bool, api.Errno) {
	i := m.at(branch)
	switch {
	case now < 0 || now > 1<<40-320 || status < 100 || status > 699:
		return 0, false, 1
	case i < 0 || m.l[i].end >= 0:
		return 0, false, 6
	case status < 200:
		return m.l[i].number, false, 0
	}
	m.l[i].end = now + 50
	return m.l[i].number, true, 0
}

func (m *model) live(id int) bool {
	return slices.ContainsFunc(m.l, func(x asked) bool { return x.number == id && x.end < 0 })
}

// timed is something that is due, with its tick.
type timed struct {
	tick int
	due  client.Due
}

// owed is what one that waits has due up to a tick and not told.
func (x asked) owed(now int) []timed {
	var out []timed
	for _, tick := range again[min(x.told, len(again)):] {
		out = append(out, timed{x.first + tick, client.Due{ID: x.number, Sent: x.request}})
	}
	out = append(out, timed{x.first + 320, client.Due{ID: x.number, Over: true}})
	return slices.DeleteFunc(out, func(y timed) bool { return y.tick > now })
}

func (m *model) step(now int) []client.Due {
	var all []timed
	var left []asked
	for _, x := range m.l {
		if x.end >= 0 {
			if x.end > now {
				left = append(left, x)
			}
			continue
		}
		owed := x.owed(now)
		all = append(all, owed...)
		x.told += len(owed)
		if x.told <= len(again) {
			left = append(left, x)
		}
	}
	m.l = left
	slices.SortFunc(all, func(a, b timed) int {
		return cmp.Or(cmp.Compare(a.tick, b.tick), cmp.Compare(a.due.ID, b.due.ID))
	})
	var out []client.Due
	for _, x := range all {
		out = append(out, x.due)
	}
	return out
}

// both are a table and its model, which are asked the same.
type both struct {
	c *client.Table
	m *model
}

func pair(t *testing.T, most int) both {
	t.Helper()
	return both{table(t, most), &model{most: most}}
}

func (b both) start(t *testing.T, branch string, now int, s api.Sent) {
	t.Helper()
	number, err := b.m.start(branch, now, s)
	if n, e := b.c.Start(branch, now, s); n != number || e != err {
		t.Errorf("Start(%q, %d, %v) = %d, %d, not %d, %d", branch, now, s, n, e, number, err)
	}
}

func (b both) response(t *testing.T, branch string, status, now int) {
	t.Helper()
	n, good, err := b.m.response(branch, status, now)
	responds(t, b.c, branch, status, now, n, good, err)
}

func (b both) pass(t *testing.T, now int) {
	t.Helper()
	does(t, b.c, now, b.m.step(now)...)
}

// look holds all against each other that can be asked without a change.
func (b both) look(t *testing.T) {
	t.Helper()
	holds(t, b.c, len(b.m.l))
	for id := b.m.begun - 2*b.m.most - 1; id <= b.m.begun+1; id++ {
		lives(t, b.c, id, b.m.live(id))
	}
	if t.Failed() {
		t.FailNow()
	}
}

// steps is how many calls step has: three branches begun at two ticks, three responses to two of them, five ticks that go by.
const steps = 3*2 + 3*2 + 5

// step makes one of a few calls, told by a number.
func (b both) step(t *testing.T, n int) {
	t.Helper()
	names := []string{"b", "d", "e"}
	switch {
	case n < 6:
		b.start(t, names[n/2], []int{0, 10}[n%2], api.Sent{To: names[n/2], Bytes: names[n%2]})
	case n < 12:
		b.response(t, names[n%2], []int{199, 200, 699}[(n-6)/2], []int{3, 265, 275}[(n-6)/2])
	default:
		b.pass(t, []int{5, 15, 53, 315, 325}[n-12])
	}
}

func TestP12_5AllShortRuns(t *testing.T) {
	for most := 1; most <= 2; most++ {
		runs := 1
		for length := 1; length <= 4; length++ {
			runs *= steps
			for run := range runs {
				b := pair(t, most)
				for n, left := run, length; left > 0; left-- {
					b.step(t, n%steps)
					n /= steps
				}
				b.look(t)
				b.pass(t, 330)
				b.look(t)
			}
		}
	}
}

// draws are numbers that look chosen by chance but are the same each time.
type draws uint64

func (d *draws) below(n int) int {
	*d = *d*6364136223846793005 + 1442695040888963407
	return int(uint64(*d)>>33) % n
}

func TestP12_5LongRuns(t *testing.T) {
	for _, x := range []struct{ most, branches, forward int }{{1, 2, 400}, {3, 5, 100}, {20, 40, 30}, {200, 300, 3}} {
		d := draws(x.most)
		b := pair(t, x.most)
		now := 0
		for range 6000 {
			branch := name(d.below(x.branches))
			switch n := d.below(20); {
			case n < 8:
				b.start(t, branch, max(now+d.below(50)-5, 0), api.Sent{To: branch, Bytes: name(d.below(40))})
			case n < 12:
				b.response(t, branch, 95+d.below(610), now+d.below(20)-2)
			case n < 18:
				now += d.below(x.forward)
				b.pass(t, now)
			case n == 18:
				far := []int{-1, 1 << 40, math.MinInt, math.MaxInt}[d.below(4)]
				b.start(t, branch, far, api.Sent{})
				b.response(t, branch, 200, far)
			default:
				b.pass(t, now+d.below(2000)-1900)
			}
			b.look(t)
		}
		b.pass(t, math.MaxInt)
		b.look(t)
		holds(t, b.c, 0)
	}
}

func TestP12_5RunsOfAFullTable(t *testing.T) {
	d := draws(9)
	b := pair(t, 200)
	full, now := 0, 0
	for range 6000 {
		branch := name(d.below(400))
		switch n := d.below(10); {
		case n < 8:
			b.start(t, branch, now, api.Sent{To: "a", Bytes: branch})
		case n == 8:
			b.response(t, branch, 200, now)
		default:
			now += d.below(10)
			b.pass(t, now)
		}
		if b.c.Len() == 200 {
			full++
		}
		if t.Failed() {
			t.FailNow()
		}
	}
	b.look(t)
	if full < 1000 {
		t.Errorf("full %d times only", full)
	}
}
