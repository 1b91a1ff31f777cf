package subs_test

import (
	"math"
	"testing"

	"roster/api"
	"roster/subs"
)

// sets asks Set, and what it should answer.
func sets(t *testing.T, x *subs.Table, number, state int, reason string, want api.Errno) {
	t.Helper()
	if err := x.Set(number, state, reason); err != want {
		t.Errorf("Set(%d, %d, %.50q) = %d, not %d", number, state, reason, err, want)
	}
}

func sends(t *testing.T, x *subs.Table, number, out int, want api.Errno) {
	t.Helper()
	if err := x.Sent(number, out); err != want {
		t.Errorf("Sent(%d, %d) = %d, not %d", number, out, err, want)
	}
}

func drops(t *testing.T, x *subs.Table, number int, want bool) {
	t.Helper()
	if ok := x.Drop(number); ok != want {
		t.Errorf("Drop(%d) = %t", number, ok)
	}
}

// noStates are numbers that are no state.
var noStates = []int{math.MinInt, -1, 3, 4, 1 << 32, math.MaxInt}

func TestP19_3Set(t *testing.T) {
	x, want := table(t, config(2)), begun(1, 1, 600)
	begins(t, x, 0, asked(1, 60), want)
	begins(t, x, 0, asked(2, 60), begun(2, 2, 600))
	for _, reason := range []string{"", "x", "timeout", "no token", "\xff\n", long(5000), ""} {
		for _, state := range []int{0, 1, 1, 0, 0} {
			sets(t, x, 1, state, reason, 0)
			want.State, want.Reason = state, reason
			holds(t, x, want, begun(2, 2, 600))
		}
		for _, state := range noStates {
			sets(t, x, 1, state, "other", 1)
			holds(t, x, want, begun(2, 2, 600))
		}
	}
	// Its time stays what it was.
	expires(t, x, 599)
	expires(t, x, 600, 1, 2)
	holds(t, x, over(want), over(begun(2, 2, 600)))
}

func TestP19_3SetNone(t *testing.T) {
	x := table(t, config(3))
	for _, number := range []int{math.MinInt, -1, 0, 1, 2, math.MaxInt} {
		for _, state := range append([]int{0, 1, 2}, noStates...) {
			sets(t, x, number, state, "x", 6)
		}
	}
	begins(t, x, 0, asked(1, 60), begun(1, 1, 600))
	begins(t, x, 0, asked(2, 0), over(begun(2, 2, 0)))
	begins(t, x, 0, asked(3, 60), begun(3, 3, 600))
	drops(t, x, 3, true)
	for _, state := range append([]int{0, 1, 2}, noStates...) {
		sets(t, x, 2, state, "x", 6)
		sets(t, x, 3, state, "x", 6)
		sets(t, x, 4, state, "x", 6)
		sets(t, x, 0, state, "x", 6)
	}
	holds(t, x, begun(1, 1, 600), over(begun(2, 2, 0)))
}

func TestP19_3SetTerminated(t *testing.T) {
	for _, reason := range []string{"", "rejected", "no token", "timeout"} {
		x, want := table(t, config(1)), begun(1, 1, 600)
		begins(t, x, 0, asked(1, 60), want)
		sets(t, x, 1, 2, reason, 0)
		want.State, want.Reason = 2, reason
		holds(t, x, want)
		for state := range 3 {
			sets(t, x, 1, state, "other", 6)
		}
		denies(t, x, 0, 1, inside(1, 8, 60), 6)
		// Its time is never over: it has ended already.
		expires(t, x, 600)
		expires(t, x, math.MaxInt)
		holds(t, x, want)
		finds(t, x, inside(1, 8, 60), 1)
	}
}

func TestP19_3Sent(t *testing.T) {
	x, want := table(t, config(2)), begun(1, 1, 600)
	begins(t, x, 0, asked(1, 60), want)
	begins(t, x, 0, asked(2, 60), begun(2, 2, 600))
	for _, s := range []struct {
		out  int
		want api.Errno
	}{
		{0, 180}, {-1, 180}, {math.MinInt, 180}, {lastCSeq + 1, 180}, {1 << 32, 180}, {math.MaxInt, 180},
		{1, 0}, {1, 180}, {0, 180}, {2, 0}, {3, 0}, {2, 180}, {3, 180}, {9, 0}, {8, 180}, {10, 0},
		{math.MaxInt, 180}, {lastCSeq - 1, 0}, {lastCSeq - 1, 180}, {lastCSeq + 1, 180}, {lastCSeq, 0},
		{lastCSeq, 180}, {lastCSeq + 1, 180}, {1, 180}, {-1, 180}, {math.MaxInt, 180},
	} {
		sends(t, x, 1, s.out, s.want)
		if s.want == 0 {
			want.Dialog.LastOut = s.out
		}
		holds(t, x, want, begun(2, 2, 600))
	}
	for _, out := range []int{math.MinInt, 0, 1, math.MaxInt} {
		for _, number := range []int{math.MinInt, -1, 0, 3, math.MaxInt} {
			sends(t, x, number, out, 6)
		}
	}
	holds(t, x, want, begun(2, 2, 600))
}

// What is terminated may still have to say so.
func TestP19_3SentTerminated(t *testing.T) {
	x, first, second, third := table(t, config(3)), begun(1, 1, 600), over(begun(2, 2, 0)), begun(3, 3, 600)
	begins(t, x, 0, asked(1, 60), first)
	begins(t, x, 0, asked(2, 0), second)
	begins(t, x, 0, asked(3, 60), third)
	sends(t, x, 1, 4, 0)
	sets(t, x, 1, 2, "rejected", 0)
	expires(t, x, 600, 3)
	for n := range 3 {
		sends(t, x, n+1, 0, 180)
		sends(t, x, n+1, 5, 0)
		sends(t, x, n+1, 5, 180)
		sends(t, x, n+1, lastCSeq+1, 180)
	}
	first.State, first.Reason, third = 2, "rejected", over(third)
	first.Dialog.LastOut, second.Dialog.LastOut, third.Dialog.LastOut = 5, 5, 5
	holds(t, x, first, second, third)
	drops(t, x, 2, true)
	sends(t, x, 2, 6, 6)
}

func TestP19_3Drop(t *testing.T) {
	x := table(t, config(3))
	for _, n := range []int{math.MinInt, -1, 0, 1, math.MaxInt} {
		drops(t, x, n, false)
	}
	begins(t, x, 0, asked(1, 60), begun(1, 1, 600))
	begins(t, x, 0, asked(2, 0), over(begun(2, 2, 0)))
	begins(t, x, 0, asked(3, 60), begun(3, 3, 600))
	for _, n := range []int{math.MinInt, -1, 0, 4, math.MaxInt} {
		drops(t, x, n, false)
	}
	holds(t, x, begun(1, 1, 600), over(begun(2, 2, 0)), begun(3, 3, 600))
	for _, n := range []int{2, 1} {
		drops(t, x, n, true)
		drops(t, x, n, false)
		misses(t, x, n)
		finds(t, x, inside(n, 8, 60), 0)
		denies(t, x, 0, n, inside(n, 8, 60), 6)
		sets(t, x, n, 1, "", 6)
		sends(t, x, n, 1, 6)
	}
	holds(t, x, begun(3, 3, 600))
	// Of one that is gone, no time is over.
	expires(t, x, 600, 3)
	drops(t, x, 3, true)
	drops(t, x, 3, false)
	expires(t, x, math.MaxInt)
	holds(t, x)
}

func TestP19_4Expire(t *testing.T) {
	x := table(t, config(9))
	untils := []int{700, 600, 610, 605, 700, 0, 36000, 700}
	var all []api.Sub
	for i, secs := range []int{70, 60, 61, 60, 70, 0, 3600, 70} {
		all = append(all, begun(i+1, i, untils[i]))
		if secs == 0 {
			all[i] = over(all[i])
		}
		begins(t, x, untils[i]-10*secs, asked(i, secs), all[i])
	}
	for _, now := range []int{math.MinInt, -1, 0, 1, 60, 599} {
		expires(t, x, now)
	}
	holds(t, x, all...)
	told := func(now int, numbers ...int) {
		t.Helper()
		expires(t, x, now, numbers...)
		for _, n := range numbers {
			all[n-1] = over(all[n-1])
		}
		expires(t, x, now)
		holds(t, x, all...)
	}
	told(600, 2)
	told(604)
	told(605, 4)
	told(699, 3)
	told(600)
	told(700, 1, 5, 8)
	told(35999)
	told(math.MaxInt, 7)
	told(math.MaxInt)
}

// Rising are the numbers, whatever the order in which their times are over.
func TestP19_4Rising(t *testing.T) {
	x := table(t, config(200))
	var all []int
	for i := range 200 {
		begins(t, x, 300-i, asked(i, 60+i*37%100), begun(i+1, i, 300-i+600+10*(i*37%100)))
		all = append(all, i+1)
	}
	expires(t, x, 300)
	expires(t, x, 5000, all...)
	expires(t, x, 5000)
	for _, s := range x.All() {
		if s.State != 2 || s.Reason != "timeout" {
			t.Errorf("%s", shown(s))
		}
	}
}

// Whatever was told of a state, the Reason of an end in time is the timeout.
func TestP19_4Reason(t *testing.T) {
	for state := range 2 {
		x, want := table(t, config(1)), begun(1, 1, 600)
		begins(t, x, 0, asked(1, 60), want)
		sets(t, x, 1, state, "why", 0)
		sends(t, x, 1, 3, 0)
		expires(t, x, 600, 1)
		want.Dialog.LastOut = 3
		holds(t, x, over(want))
	}
}

// A time that was made longer, or shorter, counts as it was made last.
func TestP19_4CountedAnew(t *testing.T) {
	x, want := table(t, config(1)), begun(1, 1, 700)
	begins(t, x, 100, asked(1, 60), want)
	for i, s := range []struct{ now, n int }{{699, 60}, {800, 3600}, {5000, 60}, {5001, 61}, {0, 60}, {0, 3600}, {1, 60}} {
		want.Until, want.Dialog.LastIn = s.now+10*s.n, 8+i
		again(t, x, s.now, 1, inside(1, 8+i, s.n), want)
		expires(t, x, min(want.Until-1, s.now+599))
	}
	expires(t, x, 600)
	expires(t, x, 601, 1)
	holds(t, x, over(want))
}

func TestP19_4Last(t *testing.T) {
	c := config(2)
	c.Most = mostSeconds
	x := table(t, c)
	first, second := begun(1, 1, 1<<39+21474836470), begun(2, 2, 1<<39+21474836470)
	begins(t, x, lastNow, asked(1, mostSeconds), first)
	begins(t, x, 0, asked(2, 60), begun(2, 2, 600))
	second.Dialog.LastIn = 8
	again(t, x, lastNow, 2, inside(2, 8, math.MaxInt), second)
	expires(t, x, 1<<39+21474836469)
	holds(t, x, first, second)
	expires(t, x, 1<<39+21474836470, 1, 2)
	holds(t, x, over(first), over(second))
}

// ends are the ways in which a subscription ends.
var ends = []func(x *subs.Table){
	func(x *subs.Table) { x.Expire(600) },
	func(x *subs.Table) { x.Expire(math.MaxInt) },
	func(x *subs.Table) { x.Set(1, 2, "") },
	func(x *subs.Table) { x.Set(1, 2, "rejected") },
	func(x *subs.Table) { x.Again(3, 1, inside(1, 8, 0)) },
}

func TestP19_6StaysTerminated(t *testing.T) {
	for _, end := range ends {
		x := table(t, config(2))
		begins(t, x, 0, asked(1, 60), begun(1, 1, 600))
		end(x)
		was := x.All()
		if len(was) != 1 || was[0].State != 2 {
			t.Fatal(shown(was))
		}
		for n := range 10 {
			for state := range 3 {
				sets(t, x, 1, state, "other", 6)
			}
			denies(t, x, n, 1, inside(1, 9+n, 60), 6)
			denies(t, x, n, 1, inside(1, 9+n, 0), 6)
			expires(t, x, 600*n)
			expires(t, x, math.MaxInt)
			holds(t, x, was...)
		}
		// One that begins in the same talk is another one.
		begins(t, x, 0, asked(1, 60), begun(2, 1, 600))
		holds(t, x, was[0], begun(2, 1, 600))
		finds(t, x, inside(1, 9, 60), 1)
		drops(t, x, 1, true)
		finds(t, x, inside(1, 9, 60), 2)
	}
}

func TestP19_6TakenOnce(t *testing.T) {
	x, want := table(t, config(1)), begun(1, 1, 600)
	begins(t, x, 0, asked(1, 60), want)
	last := 7
	for _, seq := range []int{8, 8, 7, 20, 9, 19, 20, 21, 21, -5, 22, math.MaxInt, math.MaxInt, 23} {
		r := inside(1, seq, 60)
		if seq <= last {
			denies(t, x, 5, 1, r, 180)
			continue
		}
		last = seq
		want.Until, want.Dialog.LastIn = 605, seq
		again(t, x, 5, 1, r, want)
		for range 3 {
			denies(t, x, 9, 1, r, 180)
		}
		holds(t, x, want)
	}
}

// What is done to one table is not done to another.
func TestRuleTablesApart(t *testing.T) {
	a, b := table(t, config(1)), table(t, config(1))
	begins(t, a, 0, asked(1, 60), begun(1, 1, 600))
	holds(t, b)
	finds(t, b, inside(1, 8, 60), 0)
	begins(t, b, 0, asked(2, 70), begun(1, 2, 700))
	sets(t, b, 1, 0, "x", 0)
	expires(t, b, 600)
	holds(t, a, begun(1, 1, 600))
	expires(t, a, 600, 1)
	drops(t, a, 1, true)
	expires(t, b, 700, 1)
}
