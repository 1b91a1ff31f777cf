package clock_test

import (
	"math"
	"math/big"
	"testing"

	"roster/api"
	"roster/clock"
)

// edges are ints at which a sum or a difference might go wrong.
func edges() []int {
	return []int{
		math.MinInt, math.MinInt + 1, math.MinInt + 9, math.MinInt + 10, math.MinInt / 2,
		-api.MaxTick - 1, -api.MaxTick, -1 << 32, -1 << 31, -11, -10, -9, -2, -1,
		0, 1, 2, 9, 10, 11, 19, 20, 21, 1<<31 - 2, 1<<31 - 1, 1 << 31, 1 << 32,
		api.MaxTick/2 - 1, api.MaxTick / 2, api.MaxTick/2 + 1,
		api.MaxTick - 1, api.MaxTick, api.MaxTick + 1,
		math.MaxInt / 2, math.MaxInt - 10, math.MaxInt - 9, math.MaxInt - 1, math.MaxInt,
	}
}

func TestP2_1Add(t *testing.T) {
	for _, x := range []struct {
		t, d, want int
		err        api.Errno
	}{
		{0, 0, 0, api.OK},
		{1, 2, 3, api.OK},
		{600, 35, 635, api.OK},
		{api.MaxTick, 0, api.MaxTick, api.OK},
		{0, api.MaxTick, api.MaxTick, api.OK},
		{api.MaxTick - 1, 1, api.MaxTick, api.OK},
		{api.MaxTick / 2, api.MaxTick / 2, api.MaxTick, api.OK},
		{api.MaxTick, 1, 0, api.ErrRange},
		{1, api.MaxTick, 0, api.ErrRange},
		{api.MaxTick, api.MaxTick, 0, api.ErrRange},
		{api.MaxTick/2 + 1, api.MaxTick / 2, 0, api.ErrRange},
		{-1, 0, 0, api.ErrArg},
		{0, -1, 0, api.ErrArg},
		{-1, api.MaxTick, 0, api.ErrArg},
		{api.MaxTick, -1, 0, api.ErrArg},
		{-1, -1, 0, api.ErrArg},
		{5, -3, 0, api.ErrArg},
		{-3, 5, 0, api.ErrArg},
		{api.MaxTick + 1, 0, 0, api.ErrArg},
		{0, api.MaxTick + 1, 0, api.ErrArg},
		{api.MaxTick + 1, -1, 0, api.ErrArg},
		{-1, api.MaxTick + 1, 0, api.ErrArg},
		{math.MaxInt, math.MaxInt, 0, api.ErrArg},
		{math.MaxInt, 1, 0, api.ErrArg},
		{math.MinInt, math.MinInt, 0, api.ErrArg},
		{math.MinInt, 1, 0, api.ErrArg},
	} {
		if got, err := clock.Add(x.t, x.d); got != x.want || err != x.err {
			t.Errorf("Add(%d, %d) = %d, %d", x.t, x.d, got, err)
		}
	}
}

func TestP2_1AddEdges(t *testing.T) {
	inside := func(n int) bool { return n >= 0 && n <= 1<<40 }
	for _, a := range edges() {
		for _, b := range edges() {
			want, wrong := a+b, api.OK
			if !inside(a) || !inside(b) {
				want, wrong = 0, api.ErrArg
			} else if a+b > 1<<40 {
				want, wrong = 0, api.ErrRange
			}
			if got, err := clock.Add(a, b); got != want || err != wrong {
				t.Errorf("Add(%d, %d) = %d, %d, not %d, %d", a, b, got, err, want, wrong)
			}
		}
	}
}

func TestP2_1Seconds(t *testing.T) {
	for _, x := range []struct {
		n, want int
		err     api.Errno
	}{
		{0, 0, api.OK},
		{1, 10, api.OK},
		{60, 600, api.OK},
		{3600, 36000, api.OK},
		{1<<31 - 2, 21474836460, api.OK},
		{1<<31 - 1, 21474836470, api.OK},
		{1 << 31, 0, api.ErrRange},
		{1 << 32, 0, api.ErrRange},
		{math.MaxInt, 0, api.ErrRange},
		{-1, 0, api.ErrRange},
		{-60, 0, api.ErrRange},
		{math.MinInt, 0, api.ErrRange},
	} {
		if got, err := clock.Seconds(x.n); got != x.want || err != x.err {
			t.Errorf("Seconds(%d) = %d, %d", x.n, got, err)
		}
	}
}

func TestP2_1Left(t *testing.T) {
	for _, x := range []struct{ now, until, want int }{
		{0, 11, 2},
		{5, 5, 0},
		{5, 6, 1},
		{5, 14, 1},
		{5, 15, 1},
		{5, 16, 2},
		{0, 0, 0},
		{0, 600, 60},
		{6, 5, 0},
		{600, 0, 0},
		{-5, 5, 1},
		{-5, 6, 2},
		{-30, -10, 2},
		{-10, -30, 0},
		{0, math.MaxInt, 922337203685477581},
		{-1, math.MaxInt, 922337203685477581},
		{-4, math.MaxInt, 922337203685477582},
		{math.MaxInt, math.MinInt, 0},
		{math.MinInt, math.MinInt, 0},
		{math.MaxInt, math.MaxInt, 0},
		{math.MinInt, 0, 922337203685477581},
		{math.MinInt, math.MaxInt, 1844674407370955162},
		{math.MinInt, math.MaxInt - 5, 1844674407370955161},
		{math.MinInt, math.MaxInt - 4, 1844674407370955162},
	} {
		if got := clock.Left(x.now, x.until); got != x.want {
			t.Errorf("Left(%d, %d) = %d, not %d", x.now, x.until, got, x.want)
		}
	}
}

// leftOf works Left out in numbers that never go round.
func leftOf(now, until int) int {
	d := new(big.Int).Sub(big.NewInt(int64(until)), big.NewInt(int64(now)))
	if d.Sign() <= 0 {
		return 0
	}
	d.Add(d, big.NewInt(9))
	return int(d.Div(d, big.NewInt(10)).Int64())
}

func TestP2_1LeftEdges(t *testing.T) {
	for _, now := range edges() {
		for _, until := range edges() {
			if got, want := clock.Left(now, until), leftOf(now, until); got != want {
				t.Errorf("Left(%d, %d) = %d, not %d", now, until, got, want)
			}
		}
	}
	for now := -40; now <= 40; now++ {
		for until := -40; until <= 40; until++ {
			if got, want := clock.Left(now, until), leftOf(now, until); got != want {
				t.Errorf("Left(%d, %d) = %d, not %d", now, until, got, want)
			}
		}
	}
}

func TestP2_1Together(t *testing.T) {
	for _, now := range []int{0, 7, 1 << 35} {
		for _, n := range []int{0, 1, 60, api.MaxSeconds} {
			ticks, _ := clock.Seconds(n)
			until, err := clock.Add(now, ticks)
			if left := clock.Left(now, until); left != n || err != api.OK {
				t.Errorf("%d seconds from %d on: %d are left, %d", n, now, left, err)
			}
		}
	}
}
