package wheel_test

import (
	"math"
	"slices"
	"testing"

	"roster/api"
	"roster/wheel"
)

// timers writes a list of At and ID by turns, as the chapter's example does.
func timers(numbers ...int) []api.Timer {
	var l []api.Timer
	for i := 0; i+1 < len(numbers); i += 2 {
		l = append(l, api.Timer{At: numbers[i], ID: numbers[i+1]})
	}
	return l
}

// with is a wheel in which timers were set, in order.
func with(t *testing.T, l []api.Timer) *wheel.Wheel {
	t.Helper()
	w := wheel.New()
	for _, x := range l {
		if err := w.Set(x.ID, x.At); err != api.OK {
			t.Fatalf("Set(%d, %d) = %d", x.ID, x.At, err)
		}
	}
	return w
}

// holds asks whether a wheel has just these timers, the first of them first, by calls that take none out.
func holds(t *testing.T, w *wheel.Wheel, l []api.Timer) {
	t.Helper()
	if got := w.Len(); got != len(l) {
		t.Errorf("Len() = %d, not %d", got, len(l))
	}
	for _, x := range l {
		if at, ok := w.When(x.ID); at != x.At || !ok {
			t.Errorf("When(%d) = %d, %t, not %d", x.ID, at, ok, x.At)
		}
	}
	next, ok := w.Next()
	if len(l) == 0 {
		if ok || next != (api.Timer{}) {
			t.Errorf("Next() = %v, %t, of none", next, ok)
		}
	} else if !ok || next != l[0] {
		t.Errorf("Next() = %v, %t, not %v", next, ok, l[0])
	}
}

// empties asks the same by taking all of them out.
func empties(t *testing.T, w *wheel.Wheel, l []api.Timer) {
	t.Helper()
	holds(t, w, l)
	if got := w.Due(api.MaxTick); !slices.Equal(got, l) {
		t.Errorf("Due(MaxTick) = %v, not %v", got, l)
	}
	holds(t, w, nil)
}

// full is a wheel with as many timers as there may be, of the IDs from 0 on.
func full(t *testing.T) *wheel.Wheel {
	t.Helper()
	w := wheel.New()
	for id := range api.MaxTimers {
		if err := w.Set(id, 10*id); err != api.OK {
			t.Fatalf("Set(%d) = %d", id, err)
		}
	}
	return w
}

func TestP9_1New(t *testing.T) {
	w := wheel.New()
	if w == nil {
		t.Fatal("New() = nil")
	}
	for _, id := range []int{math.MinInt, -1, 0, 1, math.MaxInt} {
		if at, ok := w.When(id); at != 0 || ok {
			t.Errorf("When(%d) = %d, %t", id, at, ok)
		}
		if w.Stop(id) {
			t.Errorf("Stop(%d) of none", id)
		}
	}
	empties(t, w, nil)
}

func TestP9_1SetArguments(t *testing.T) {
	for _, x := range []struct {
		id, at int
		err    api.Errno
	}{
		{0, 0, api.OK},
		{1, 0, api.OK},
		{0, 1, api.OK},
		{7, 1 << 40, api.OK},
		{7, 1<<40 - 1, api.OK},
		{1 << 40, 5, api.OK},
		{1<<40 + 1, 5, api.OK},
		{math.MaxInt, 1 << 40, api.OK},
		{math.MaxInt, 0, api.OK},
		{-1, 0, api.ErrArg},
		{-1, 5, api.ErrArg},
		{-7, 1 << 40, api.ErrArg},
		{math.MinInt, 0, api.ErrArg},
		{0, -1, api.ErrArg},
		{0, -1 << 40, api.ErrArg},
		{0, math.MinInt, api.ErrArg},
		{0, 1<<40 + 1, api.ErrArg},
		{5, 1 << 41, api.ErrArg},
		{5, math.MaxInt, api.ErrArg},
		{-1, -1, api.ErrArg},
		{-1, 1<<40 + 1, api.ErrArg},
		{math.MinInt, math.MaxInt, api.ErrArg},
	} {
		w := wheel.New()
		var want []api.Timer
		if x.err == api.OK {
			want = timers(x.at, x.id)
		}
		if err := w.Set(x.id, x.at); err != x.err {
			t.Errorf("Set(%d, %d) = %d, not %d", x.id, x.at, err, x.err)
		}
		empties(t, w, want)
	}
}

func TestP9_1SetAgain(t *testing.T) {
	for _, x := range []struct{ set, want []api.Timer }{
		{timers(5, 1, 5, 1), timers(5, 1)},
		{timers(5, 1, 9, 1), timers(9, 1)},
		{timers(9, 1, 5, 1), timers(5, 1)},
		{timers(9, 1, 5, 1, 7, 1), timers(7, 1)},
		{timers(5, 1, 6, 2, 7, 1), timers(6, 2, 7, 1)},
		{timers(5, 1, 6, 2, 4, 2), timers(4, 2, 5, 1)},
		{timers(5, 1, 6, 2, 5, 2), timers(5, 1, 5, 2)},
		{timers(5, 2, 6, 1, 5, 1), timers(5, 1, 5, 2)},
		{timers(5, 0, 0, 0), timers(0, 0)},
		{timers(0, 3, 1<<40, 3), timers(1<<40, 3)},
		{timers(1, 1, 2, 2, 3, 3, 4, 4, 5, 1), timers(2, 2, 3, 3, 4, 4, 5, 1)},
		{timers(1, 1, 2, 2, 3, 3, 4, 4, 0, 4), timers(0, 4, 1, 1, 2, 2, 3, 3)},
	} {
		empties(t, with(t, x.set), x.want)
	}
}

func TestP9_1SetWrongChangesNothing(t *testing.T) {
	w := with(t, timers(5, 1, 9, 2))
	for _, x := range [][2]int{{1, -1}, {1, api.MaxTick + 1}, {2, math.MinInt}, {2, math.MaxInt}, {-1, 0}, {-2, 5}} {
		if err := w.Set(x[0], x[1]); err != api.ErrArg {
			t.Errorf("Set(%d, %d) = %d", x[0], x[1], err)
		}
		holds(t, w, timers(5, 1, 9, 2))
	}
	empties(t, w, timers(5, 1, 9, 2))
}

func TestP9_1SetFull(t *testing.T) {
	w := full(t)
	const more = api.MaxTimers
	for _, x := range []struct {
		id, at int
		err    api.Errno
	}{
		{more, 0, api.ErrFull},
		{more, api.MaxTick, api.ErrFull},
		{math.MaxInt, 5, api.ErrFull},
		{-1, 5, api.ErrArg},
		{more, -1, api.ErrArg},
		{more, api.MaxTick + 1, api.ErrArg},
		{3, -1, api.ErrArg},
		{3, api.MaxTick + 1, api.ErrArg},
	} {
		if err := w.Set(x.id, x.at); err != x.err {
			t.Errorf("Set(%d, %d) of a full wheel = %d, not %d", x.id, x.at, err, x.err)
		}
		if _, ok := w.When(x.id); ok != (x.id == 3) || w.Len() != 4096 {
			t.Errorf("after Set(%d, %d): %d timers", x.id, x.at, w.Len())
		}
	}
	if err := w.Set(4095, 3); err != api.OK {
		t.Errorf("Set of one that there is = %d", err)
	}
	if at, ok := w.When(4095); at != 3 || !ok || w.Len() != 4096 {
		t.Errorf("set again: %d, %t, %d timers", at, ok, w.Len())
	}
	if err := w.Set(more, 5); err != api.ErrFull {
		t.Errorf("Set of one more = %d", err)
	}
}

func TestP9_1RoomAgain(t *testing.T) {
	w := full(t)
	if !w.Stop(2000) {
		t.Fatal("Stop(2000)")
	}
	if err := w.Set(5000, 7); err != api.OK {
		t.Errorf("behind Stop: %d", err)
	}
	if err := w.Set(2000, 7); err != api.ErrFull {
		t.Errorf("full again: %d", err)
	}
	if l := w.Due(10); !slices.Equal(l, timers(0, 0, 7, 5000, 10, 1)) {
		t.Errorf("Due(10) = %v", l)
	}
	for _, id := range []int{0, 1, 2000} {
		if err := w.Set(id, 9); err != api.OK {
			t.Errorf("behind Due: Set(%d) = %d", id, err)
		}
	}
	if err := w.Set(3000, 0); err != api.OK {
		t.Errorf("one that there is: %d", err)
	}
	if err := w.Set(5000, 7); err != api.ErrFull {
		t.Errorf("full once more: %d", err)
	}
}

func TestP9_1Stop(t *testing.T) {
	all := timers(1, 5, 2, 4, 2, 6, 3, 0, 9, 1)
	for i, x := range all {
		w := with(t, all)
		if !w.Stop(x.ID) {
			t.Errorf("Stop(%d) = false", x.ID)
		}
		if at, ok := w.When(x.ID); at != 0 || ok {
			t.Errorf("When(%d) = %d, %t, of one stopped", x.ID, at, ok)
		}
		if w.Stop(x.ID) {
			t.Errorf("Stop(%d) twice", x.ID)
		}
		for _, id := range []int{math.MinInt, -1, 2, 3, 7, 9, math.MaxInt} {
			if w.Stop(id) {
				t.Errorf("Stop(%d) of none", id)
			}
		}
		empties(t, w, slices.Delete(slices.Clone(all), i, i+1))
	}
}

func TestP9_1SetBehindStop(t *testing.T) {
	w := with(t, timers(5, 1, 6, 2))
	if !w.Stop(1) || w.Set(1, 7) != api.OK {
		t.Error("stopped and set")
	}
	empties(t, w, timers(6, 2, 7, 1))
	if w.Stop(1) || w.Stop(2) {
		t.Error("Stop of those that were due")
	}
	if w.Set(2, 3) != api.OK {
		t.Error("set behind Due")
	}
	empties(t, w, timers(3, 2))
}

// nobody asks a wheel that no call made for everything, right and wrong.
func nobody(t *testing.T, w *wheel.Wheel) {
	t.Helper()
	for _, id := range []int{math.MinInt, -1, 0, 1, math.MaxInt} {
		for _, at := range []int{math.MinInt, -1, 0, 1, api.MaxTick, api.MaxTick + 1, math.MaxInt} {
			if err := w.Set(id, at); err != api.ErrNil {
				t.Errorf("Set(%d, %d) = %d", id, at, err)
			}
			if l := w.Due(at); len(l) != 0 {
				t.Errorf("Due(%d) = %v", at, l)
			}
		}
		if w.Stop(id) {
			t.Errorf("Stop(%d)", id)
		}
		if at, ok := w.When(id); at != 0 || ok {
			t.Errorf("When(%d) = %d, %t", id, at, ok)
		}
	}
	if next, ok := w.Next(); ok || next != (api.Timer{}) || w.Len() != 0 {
		t.Errorf("Next() = %v, %t, Len() = %d", next, ok, w.Len())
	}
}

func TestP9_1NilAndZero(t *testing.T) {
	nobody(t, nil)
	nobody(t, &wheel.Wheel{})
	nobody(t, new(wheel.Wheel))
}

func TestP9_2When(t *testing.T) {
	w := with(t, timers(0, 3, 5, 0, 1<<40, 9, 5, math.MaxInt, 6, 4))
	for _, x := range []struct {
		id, at int
		ok     bool
	}{
		{3, 0, true},
		{0, 5, true},
		{9, 1 << 40, true},
		{math.MaxInt, 5, true},
		{4, 6, true},
		{5, 0, false},
		{6, 0, false},
		{1 << 40, 0, false},
		{1, 0, false},
		{-1, 0, false},
		{-3, 0, false},
		{math.MinInt, 0, false},
	} {
		if at, ok := w.When(x.id); at != x.at || ok != x.ok {
			t.Errorf("When(%d) = %d, %t", x.id, at, ok)
		}
	}
}

func TestP9_2Next(t *testing.T) {
	for _, x := range []struct {
		set  []api.Timer
		want api.Timer
	}{
		{timers(5, 1), api.Timer{At: 5, ID: 1}},
		{timers(0, 0), api.Timer{At: 0, ID: 0}},
		{timers(5, 1, 4, 2), api.Timer{At: 4, ID: 2}},
		{timers(4, 2, 5, 1), api.Timer{At: 4, ID: 2}},
		{timers(5, 2, 5, 1), api.Timer{At: 5, ID: 1}},
		{timers(5, 1, 5, 2), api.Timer{At: 5, ID: 1}},
		{timers(5, 3, 5, 1, 5, 2), api.Timer{At: 5, ID: 1}},
		{timers(1<<40, 0, 1<<40-1, 9), api.Timer{At: 1<<40 - 1, ID: 9}},
		{timers(5, 1, 6, 2, 7, 1), api.Timer{At: 6, ID: 2}},
		{timers(1<<33, 1, 1, 2), api.Timer{At: 1, ID: 2}},
		{timers(1, 1<<33+1, 1, 2), api.Timer{At: 1, ID: 2}},
	} {
		w := with(t, x.set)
		for range 3 {
			if got, ok := w.Next(); !ok || got != x.want {
				t.Errorf("%v: Next() = %v, %t", x.set, got, ok)
			}
		}
	}
}

func TestP9_2Len(t *testing.T) {
	w := wheel.New()
	for n := range 50 {
		if got := w.Len(); got != n {
			t.Fatalf("Len() = %d, not %d", got, n)
		}
		for range 2 {
			w.Set(n, 100-n)
		}
	}
	w.Stop(3)
	w.Stop(3)
	w.Set(-1, 0)
	if got := w.Len(); got != 49 {
		t.Errorf("Len() = %d, not 49", got)
	}
	w.Due(60)
	if got := w.Len(); got != 39 {
		t.Errorf("Len() = %d, not 39", got)
	}
	if got := full(t).Len(); got != 4096 {
		t.Errorf("Len() of a full wheel = %d", got)
	}
}

func TestP9_3Example(t *testing.T) {
	w := with(t, timers(5, 7, 5, 3, 9, 1, 4, 7))
	if l := w.Due(5); !slices.Equal(l, timers(4, 7, 5, 3)) {
		t.Errorf("Due(5) = %v", l)
	}
	if next, ok := w.Next(); !ok || next != (api.Timer{At: 9, ID: 1}) {
		t.Errorf("Next() = %v, %t", next, ok)
	}
	empties(t, w, timers(9, 1))
}

func TestP9_3Due(t *testing.T) {
	all := timers(0, 2, 4, 9, 5, 0, 5, 3, 5, 7, 6, 1, 1<<40, 4, 1<<40, 8)
	mixed := []int{7, 3, 0, 5, 2, 6, 1, 4}
	for _, x := range []struct{ now, due int }{
		{math.MinInt, 0}, {-1, 0}, {0, 1}, {1, 1}, {3, 1}, {4, 2}, {5, 5}, {6, 6}, {7, 6},
		{1<<40 - 1, 6}, {1 << 40, 8}, {1<<40 + 1, 8}, {math.MaxInt, 8},
	} {
		var set []api.Timer
		for _, i := range mixed {
			set = append(set, all[i])
		}
		w := with(t, set)
		if l := w.Due(x.now); !slices.Equal(l, all[:x.due]) {
			t.Errorf("Due(%d) = %v, not %v", x.now, l, all[:x.due])
		}
		for _, gone := range all[:x.due] {
			if at, ok := w.When(gone.ID); at != 0 || ok || w.Stop(gone.ID) {
				t.Errorf("Due(%d) left %v", x.now, gone)
			}
		}
		empties(t, w, all[x.due:])
	}
}

func TestP9_3DueOfAFullWheel(t *testing.T) {
	w := wheel.New()
	var want []api.Timer
	for i := range api.MaxTimers {
		id := i * 1571 % api.MaxTimers
		if err := w.Set(id, (id*37)%101); err != api.OK {
			t.Fatal(err)
		}
		want = append(want, api.Timer{At: (id * 37) % 101, ID: id})
	}
	slices.SortFunc(want, order)
	empties(t, w, want)
}

func TestP9_4NoneIsLeft(t *testing.T) {
	set := timers(3, 1, 1, 2, 2, 3, 3, 0, 0, 5, 2, 4)
	for now := -1; now <= 4; now++ {
		w := with(t, set)
		w.Due(now)
		if next, ok := w.Next(); ok && next.At <= now {
			t.Errorf("behind Due(%d): %v", now, next)
		}
		if l := w.Due(now); len(l) != 0 {
			t.Errorf("Due(%d) again = %v", now, l)
		}
		for _, x := range set {
			if at, ok := w.When(x.ID); ok != (x.At > now) || ok && at != x.At {
				t.Errorf("behind Due(%d): When(%d) = %d, %t", now, x.ID, at, ok)
			}
		}
	}
}

func TestP9_4EarlierThenLater(t *testing.T) {
	set := timers(3, 1, 1, 2, 2, 3, 3, 0, 0, 5, 2, 4, 1, 9, 5, 8)
	for first := -1; first <= 6; first++ {
		for second := first; second <= 6; second++ {
			w, v := with(t, set), with(t, set)
			l := slices.Concat(w.Due(first), w.Due(second))
			if want := v.Due(second); !slices.Equal(l, want) {
				t.Errorf("Due(%d), Due(%d) = %v, not %v", first, second, l, want)
			}
			if a, b := w.Due(api.MaxTick), v.Due(api.MaxTick); !slices.Equal(a, b) {
				t.Errorf("behind Due(%d), Due(%d): %v, not %v", first, second, a, b)
			}
		}
	}
}

func TestRuleMemoryOfDue(t *testing.T) {
	w := with(t, timers(1, 1, 2, 2, 3, 3, 4, 4))
	first := w.Due(2)
	kept := slices.Clone(first)
	second := w.Due(3)
	for i := range second {
		second[i] = api.Timer{At: -1, ID: -1}
	}
	_ = append(first, api.Timer{At: -1, ID: -1})
	_ = append(second, api.Timer{At: -1, ID: -1})
	w.Set(9, 9)
	if !slices.Equal(first, kept) {
		t.Errorf("an answer changed: %v", first)
	}
	empties(t, w, timers(4, 4, 9, 9))
}

func TestRuleWheelsAreApart(t *testing.T) {
	a, b := with(t, timers(5, 1, 6, 2)), with(t, timers(7, 1))
	if b.Stop(2) || !a.Stop(1) {
		t.Error("Stop")
	}
	empties(t, b, timers(7, 1))
	empties(t, a, timers(6, 2))
}
