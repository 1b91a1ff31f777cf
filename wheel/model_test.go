package wheel_test

import (
	"cmp"
	"slices"
	"testing"

	"roster/api"
	"roster/wheel"
)

// order says how timers stand ahead of one another.
func order(a, b api.Timer) int {
	return cmp.Or(cmp.Compare(a.At, b.At), cmp.Compare(a.ID, b.ID))
}

// model is a wheel as a list in order, as slow as it is plain.
type model []api.Timer

func (m *model) find(id int) int {
	return slices.IndexFunc(*m, func(x api.Timer) bool { return x.ID == id })
}

func (m *model) set(id, at int) api.Errno {
	i := m.find(id)
	switch {
	case id < 0 || at < 0 || at > 1<<40:
		return 1
	case i >= 0:
		(*m)[i].At = at
	case len(*m) == 4096:
		return 5
	default:
		*m = append(*m, api.Timer{At: at, ID: id})
	}
	slices.SortFunc(*m, order)
	return 0
}

func (m *model) stop(id int) bool {
	i := m.find(id)
	if i >= 0 {
		*m = slices.Delete(*m, i, i+1)
	}
	return i >= 0
}

func (m *model) due(now int) []api.Timer {
	n := 0
	for n < len(*m) && (*m)[n].At <= now {
		n++
	}
	out := slices.Clone((*m)[:n])
	*m = slices.Delete(*m, 0, n)
	return out
}

// both are a wheel and its model, which are asked the same.
type both struct {
	w *wheel.Wheel
	m *model
}

func pair() both { return both{wheel.New(), &model{}} }

func (b both) set(t *testing.T, id, at int) {
	t.Helper()
	if got, want := b.w.Set(id, at), b.m.set(id, at); got != want {
		t.Fatalf("Set(%d, %d) = %d, not %d", id, at, got, want)
	}
}

func (b both) stop(t *testing.T, id int) {
	t.Helper()
	if got, want := b.w.Stop(id), b.m.stop(id); got != want {
		t.Fatalf("Stop(%d) = %t, not %t", id, got, want)
	}
}

func (b both) due(t *testing.T, now int) {
	t.Helper()
	if got, want := b.w.Due(now), b.m.due(now); !slices.Equal(got, want) {
		t.Fatalf("Due(%d) = %v, not %v", now, got, want)
	}
}

// look holds all against each other that can be asked without a change.
func (b both) look(t *testing.T, ids int) {
	t.Helper()
	for id := -1; id <= ids; id++ {
		want, there := 0, false
		if i := b.m.find(id); i >= 0 {
			want, there = (*b.m)[i].At, true
		}
		if at, ok := b.w.When(id); at != want || ok != there {
			t.Fatalf("When(%d) = %d, %t, not %d, %t", id, at, ok, want, there)
		}
	}
	holds(t, b.w, *b.m)
	if t.Failed() {
		t.FailNow()
	}
}

// steps is how many calls step has: three IDs and three ticks to set, to stop, to be due.
const steps = 3*3 + 3 + 3

// step makes one of a few calls, told by a number.
func (b both) step(t *testing.T, n int) {
	t.Helper()
	switch {
	case n < 9:
		b.set(t, n/3, n%3)
	case n < 12:
		b.stop(t, n-9)
	default:
		b.due(t, n-12)
	}
}

func TestP9_4AllShortRuns(t *testing.T) {
	runs := 1
	for length := 1; length <= 4; length++ {
		runs *= steps
		for run := range runs {
			b := pair()
			for n, left := run, length; left > 0; left-- {
				b.step(t, n%steps)
				n /= steps
			}
			b.look(t, 3)
			b.due(t, 2)
			b.look(t, 3)
		}
	}
}

// draws are numbers that look chosen by chance but are the same each time.
type draws uint64

func (d *draws) below(n int) int {
	*d = *d*6364136223846793005 + 1442695040888963407
	return int(uint64(*d)>>33) % n
}

func TestP9_4LongRuns(t *testing.T) {
	for _, x := range []struct{ ids, ticks int }{{3, 3}, {8, 4}, {40, 1000}, {100, 10}, {300, 50}} {
		d := draws(x.ids)
		b := pair()
		for range 4000 {
			switch n := d.below(20); {
			case n < 14:
				b.set(t, d.below(x.ids+1)-1, d.below(x.ticks+1)-1)
			case n < 18:
				b.stop(t, d.below(x.ids+1)-1)
			case n == 18:
				b.due(t, d.below(x.ticks)/4-1)
			}
			holds(t, b.w, *b.m)
			if t.Failed() {
				t.FailNow()
			}
		}
		b.look(t, x.ids)
		b.due(t, api.MaxTick)
		b.look(t, x.ids)
	}
}

func TestP9_4RunsOfAFullWheel(t *testing.T) {
	d := draws(9)
	b := pair()
	for id := range api.MaxTimers {
		b.set(t, id, d.below(5000))
	}
	for range 3000 {
		switch n := d.below(10); {
		case n < 8:
			b.set(t, d.below(2*api.MaxTimers), d.below(5000))
		case n == 8:
			b.stop(t, d.below(2*api.MaxTimers))
		default:
			b.due(t, d.below(8))
		}
	}
	b.look(t, 2*api.MaxTimers)
	b.due(t, 2500)
	b.due(t, 5000)
	b.look(t, 2*api.MaxTimers)
}

// Each of a great many calls on a full wheel has the first timer at hand: were all looked through, this would take minutes.
func TestP9_2FirstAtHand(t *testing.T) {
	w := full(t)
	for i := range 300000 {
		first, ok := w.Next()
		if !ok || w.Set(first.ID, first.At+10*api.MaxTimers) != api.OK {
			t.Fatal(i, first, ok)
		}
		if first.At != 10*i || first.ID != i%api.MaxTimers {
			t.Fatalf("turn %d: %v", i, first)
		}
	}
}
