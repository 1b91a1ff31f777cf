package clock_test

import (
	"math"
	"testing"

	"roster/clock"
)

func TestP2_2Waits(t *testing.T) {
	for _, x := range []struct{ n, want int }{
		{1, 5}, {2, 10}, {3, 20}, {4, 40}, {5, 40}, {6, 40}, {10, 40}, {11, 40}, {12, 40},
		{32, 40}, {33, 40}, {61, 40}, {62, 40}, {63, 40}, {64, 40}, {65, 40}, {66, 40},
		{1 << 31, 40}, {math.MaxInt - 1, 40}, {math.MaxInt, 40},
		{0, 0}, {-1, 0}, {-2, 0}, {math.MinInt, 0}, {math.MinInt + 1, 0},
	} {
		if got := clock.Waits(x.n); got != x.want {
			t.Errorf("Waits(%d) = %d, not %d", x.n, got, x.want)
		}
	}
}

func TestP2_2At(t *testing.T) {
	for i, want := range []int{0, 5, 15, 35, 75, 115, 155, 195, 235, 275, 315} {
		if at, ok := clock.At(i + 1); at != want || !ok {
			t.Errorf("At(%d) = %d, %t, not %d", i+1, at, ok, want)
		}
	}
	for _, n := range []int{12, 13, 20, 64, 1 << 31, 1 << 62, math.MaxInt, 0, -1, -11, math.MinInt, math.MinInt + 1} {
		if at, ok := clock.At(n); at != 0 || ok {
			t.Errorf("At(%d) = %d, %t", n, at, ok)
		}
	}
}

func TestP2_2AtSumsWaits(t *testing.T) {
	sum := 0
	for n := 1; n <= 100; n++ {
		at, ok := clock.At(n)
		if sum < 320 && (at != sum || !ok) || sum >= 320 && (at != 0 || ok) {
			t.Errorf("At(%d) = %d, %t; the waits ahead are %d", n, at, ok, sum)
		}
		sum += clock.Waits(n)
	}
}

func TestP2_4Sendings(t *testing.T) {
	many, last := 0, -1
	for n := -1000; n <= 100000; n++ {
		at, ok := clock.At(n)
		if !ok {
			continue
		}
		many++
		if at <= last {
			t.Errorf("sending %d at %d is not behind the one at %d", n, at, last)
		}
		last = at
	}
	if many != 11 || last != 315 {
		t.Errorf("%d sendings, the last one at %d", many, last)
	}
}
