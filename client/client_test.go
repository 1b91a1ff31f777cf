package client_test

import (
	"math"
	"slices"
	"strings"
	"testing"
	"unsafe"

	"roster/api"
	"roster/client"
)

// The limits as the document writes them, so that a wrong constant would be seen.
const (
	givenUp      = 320
	rest         = 50
	maxTick      = 1 << 40
	lastStart    = maxTick - 640
	lastResponse = maxTick - 320
)

// again are the ticks at which a request that was sent first at the tick 0 is sent again.
var again = []int{5, 15, 35, 75, 115, 155, 195, 235, 275, 315}

// numbers are IDs and ticks far out and near by.
var numbers = []int{math.MinInt, -maxTick, -320, -2, -1, 0, 1, 2, 3, 5, 50, 319, 320, 321, 1 << 31, 1 << 32, lastStart, lastStart + 1, lastResponse, lastResponse + 1, maxTick, maxTick + 1, math.MaxInt}

// branches are texts of which no two are one.
var branches = []string{"b", "B", "", " ", "b ", " b", "bb", "c", "b\x00", "\x00b", "\xff", "\xfe", "\ufffd", "é", "e\u0301", "z9hG4bK", "z9hg4bk", "b\n"}

// request is the one that this file's transactions have, if it is not their request that is looked at.
var request = api.Sent{To: "a", Bytes: "r"}

// table is a table for so many.
func table(t *testing.T, most int) *client.Table {
	t.Helper()
	c, err := client.New(most)
	if c == nil || err != api.OK {
		t.Fatalf("New(%d) = %v, %d", most, c, err)
	}
	return c
}

// starts asks Start, and what it should answer.
func starts(t *testing.T, c *client.Table, branch string, now, number int, err api.Errno) {
	t.Helper()
	if n, e := c.Start(branch, now, request); n != number || e != err {
		t.Errorf("Start(%q, %d) = %d, %d, not %d, %d", branch, now, n, e, number, err)
	}
}

// begin begins a transaction.
func begin(t *testing.T, c *client.Table, branch string, now, number int) {
	t.Helper()
	starts(t, c, branch, now, number, api.OK)
}

func responds(t *testing.T, c *client.Table, branch string, status, now, number int, good bool, err api.Errno) {
	t.Helper()
	if n, ok, e := c.Response(branch, status, now); n != number || ok != good || e != err {
		t.Errorf("Response(%q, %d, %d) = %d, %t, %d, not %d, %t, %d", branch, status, now, n, ok, e, number, good, err)
	}
}

// answered answers a transaction for good.
func answered(t *testing.T, c *client.Table, branch string, now, number int) {
	t.Helper()
	responds(t, c, branch, 200, now, number, true, api.OK)
}

func does(t *testing.T, c *client.Table, now int, want ...client.Due) {
	t.Helper()
	if got := c.Step(now); !slices.Equal(got, want) {
		t.Errorf("Step(%d) = %v, not %v", now, got, want)
	}
}

// sent is that one with this file's request is sent again.
func sent(number int) client.Due { return client.Due{ID: number, Sent: request} }

// over is that one is given up.
func over(number int) client.Due { return client.Due{ID: number, Over: true} }

func lives(t *testing.T, c *client.Table, id int, want bool) {
	t.Helper()
	if got := c.Live(id); got != want {
		t.Errorf("Live(%d) = %t", id, got)
	}
}

func holds(t *testing.T, c *client.Table, n int) {
	t.Helper()
	if got := c.Len(); got != n {
		t.Errorf("Len() = %d, not %d", got, n)
	}
}

// name is a text of its own for each number.
func name(i int) string { return "z9hG4bK" + strings.Repeat("a", i%20) + strings.Repeat("b", i/20) }

func TestP12_1New(t *testing.T) {
	for most := -3; most <= 210; most++ {
		c, err := client.New(most)
		if most < 1 || most > 200 {
			if c != nil || err != api.ErrRange {
				t.Errorf("New(%d) = %v, %d", most, c, err)
			}
			continue
		}
		if c == nil || err != api.OK {
			t.Fatalf("New(%d) = %v, %d", most, c, err)
		}
		holds(t, c, 0)
		lives(t, c, 0, false)
		lives(t, c, 1, false)
		does(t, c, math.MaxInt)
		responds(t, c, "", 200, 0, 0, false, api.ErrNone)
		for i := range most {
			begin(t, c, name(i), i, i+1)
		}
		starts(t, c, name(most), 0, 0, api.ErrFull)
		holds(t, c, most)
	}
	for _, most := range []int{math.MinInt, math.MinInt32, -200, 201, 4096, 1<<32 + 1, math.MaxInt} {
		if c, err := client.New(most); c != nil || err != api.ErrRange {
			t.Errorf("New(%d) = %v, %d", most, c, err)
		}
	}
}

func TestP12_1StartNow(t *testing.T) {
	for _, x := range []struct {
		now int
		err api.Errno
	}{
		{0, api.OK},
		{1, api.OK},
		{319, api.OK},
		{1 << 31, api.OK},
		{1 << 32, api.OK},
		{lastStart - 1, api.OK},
		{lastStart, api.OK},
		{lastStart + 1, api.ErrArg},
		{lastResponse, api.ErrArg},
		{maxTick - 1, api.ErrArg},
		{maxTick, api.ErrArg},
		{maxTick + 1, api.ErrArg},
		{math.MaxInt - 319, api.ErrArg},
		{math.MaxInt, api.ErrArg},
		{-1, api.ErrArg},
		{-320, api.ErrArg},
		{-640, api.ErrArg},
		{math.MinInt, api.ErrArg},
	} {
		c := table(t, 5)
		if x.err != api.OK {
			starts(t, c, "b", x.now, 0, x.err)
			holds(t, c, 0)
			lives(t, c, 1, false)
			does(t, c, math.MaxInt)
			responds(t, c, "b", 200, 0, 0, false, api.ErrNone)
			begin(t, c, "b", 0, 1)
			continue
		}
		begin(t, c, "b", x.now, 1)
		lives(t, c, 1, true)
		does(t, c, x.now+4)
		does(t, c, x.now+5, sent(1))
		does(t, c, x.now+314, slices.Repeat([]client.Due{sent(1)}, 8)...)
		does(t, c, x.now+319, sent(1))
		lives(t, c, 1, true)
		does(t, c, x.now+320, over(1))
		lives(t, c, 1, false)
		holds(t, c, 0)
	}
}

// Where several errors apply, the one that the chapter names first is told.
func TestP12_1FirstError(t *testing.T) {
	for _, resting := range []bool{false, true} {
		c := table(t, 1)
		begin(t, c, "b", 7, 1)
		if resting {
			answered(t, c, "b", 7, 1)
		}
		for _, x := range []struct {
			branch string
			now    int
			err    api.Errno
		}{
			{"b", -1, api.ErrArg},
			{"b", lastStart + 1, api.ErrArg},
			{"d", -1, api.ErrArg},
			{"d", lastStart + 1, api.ErrArg},
			{"b", 7, api.ErrTwice},
			{"b", 0, api.ErrTwice},
			{"b", lastStart, api.ErrTwice},
			{"d", 7, api.ErrFull},
			{"d", 0, api.ErrFull},
			{"d", lastStart, api.ErrFull},
		} {
			starts(t, c, x.branch, x.now, 0, x.err)
			holds(t, c, 1)
			lives(t, c, 1, !resting)
			responds(t, c, "d", 100, 0, 0, false, api.ErrNone)
		}
		if resting {
			does(t, c, 56)
			holds(t, c, 1)
			does(t, c, 57)
		} else {
			does(t, c, 326, slices.Repeat([]client.Due{sent(1)}, 10)...)
			does(t, c, 327, over(1))
		}
		holds(t, c, 0)
		begin(t, c, "d", 0, 2)
	}
}

func TestP12_1Twice(t *testing.T) {
	c := table(t, 200)
	for i, b := range branches {
		responds(t, c, b, 100, 0, 0, false, api.ErrNone)
		begin(t, c, b, 100-i, i+1)
		starts(t, c, b, 100-i, 0, api.ErrTwice)
	}
	holds(t, c, len(branches))
	for i, b := range branches {
		starts(t, c, b, 500, 0, api.ErrTwice)
		responds(t, c, b, 100, 0, i+1, false, api.OK)
		answered(t, c, b, 200, i+1)
		starts(t, c, b, 500, 0, api.ErrTwice)
	}
	holds(t, c, len(branches))
	does(t, c, 249)
	starts(t, c, "b", 500, 0, api.ErrTwice)
	does(t, c, 250)
	for i, b := range branches {
		begin(t, c, b, 500, len(branches)+i+1)
	}
}

// One that is begun again in vain is sent as ever, and what it sends is what it had.
func TestP12_1TwiceChangesNothing(t *testing.T) {
	c := table(t, 3)
	begin(t, c, "b", 10, 1)
	does(t, c, 15, sent(1))
	for _, now := range []int{0, 10, 11, 15, 329, 330, lastStart, lastStart + 1, -1} {
		if n, err := c.Start("b", now, api.Sent{To: "other", Bytes: "thing"}); n != 0 || err == api.OK {
			t.Errorf("Start again at %d = %d, %d", now, n, err)
		}
		lives(t, c, 1, true)
		holds(t, c, 1)
	}
	does(t, c, 24)
	does(t, c, 25, sent(1))
	does(t, c, 329, slices.Repeat([]client.Due{sent(1)}, 8)...)
	does(t, c, 330, over(1))
	begin(t, c, "d", 0, 2)
}

// Those that rest take room, too.
func TestP12_1Full(t *testing.T) {
	c := table(t, 3)
	for i := range 3 {
		begin(t, c, name(i), i, i+1)
	}
	starts(t, c, "d", 3, 0, api.ErrFull)
	answered(t, c, name(1), 4, 2)
	starts(t, c, "d", 4, 0, api.ErrFull)
	answered(t, c, name(0), 4, 1)
	answered(t, c, name(2), 5, 3)
	starts(t, c, "d", 5, 0, api.ErrFull)
	does(t, c, 53)
	starts(t, c, "d", 53, 0, api.ErrFull)
	does(t, c, 54)
	holds(t, c, 1)
	begin(t, c, "d", 54, 4)
	begin(t, c, name(0), 54, 5)
	starts(t, c, "e", 54, 0, api.ErrFull)
	does(t, c, 55)
	begin(t, c, "e", 55, 6)
	starts(t, c, name(1), 55, 0, api.ErrFull)
}

func TestP12_1NumbersCountOn(t *testing.T) {
	c := table(t, 2)
	for i := range 1000 {
		begin(t, c, name(i), 320*i, i+1)
		starts(t, c, name(i), 320*i, 0, api.ErrTwice)
		starts(t, c, name(i), -1, 0, api.ErrArg)
		if i%2 == 0 {
			answered(t, c, name(i), 320*i+3, i+1)
			does(t, c, 320*i+53)
		} else {
			does(t, c, 320*i+319, slices.Repeat([]client.Due{sent(i + 1)}, 10)...)
			does(t, c, 320*i+320, over(i+1))
		}
		holds(t, c, 0)
	}
	begin(t, c, "b", 0, 1001)
	begin(t, c, "d", 0, 1002)
	starts(t, c, "e", 0, 0, api.ErrFull)
	c.Step(320)
	begin(t, c, "e", 0, 1003)
}

// nobody asks a table that no call made for everything, right and wrong.
func nobody(t *testing.T, c *client.Table) {
	t.Helper()
	for _, n := range numbers {
		for _, b := range branches {
			starts(t, c, b, n, 0, api.ErrNil)
			for _, status := range []int{math.MinInt, -1, 0, 99, 100, 199, 200, 699, 700, math.MaxInt} {
				responds(t, c, b, status, n, 0, false, api.ErrNil)
			}
		}
		lives(t, c, n, false)
		does(t, c, n)
		holds(t, c, 0)
	}
}

func TestP12_1NilAndZero(t *testing.T) {
	nobody(t, nil)
	nobody(t, &client.Table{})
	nobody(t, new(client.Table))
}

func TestP12_2Example(t *testing.T) {
	c := table(t, 1)
	begin(t, c, "b", 0, 1)
	does(t, c, 4)
	does(t, c, 5, sent(1))
	does(t, c, 34, sent(1))
	answered(t, c, "b", 34, 1)
	does(t, c, 1000)
	holds(t, c, 0)
}

// Each tick is asked for by itself, wherever the first sending stands.
func TestP12_2TickByTick(t *testing.T) {
	for _, first := range []int{0, 1, 7, 4095, 1<<31 - 200, 1<<32 - 200, lastStart} {
		c := table(t, 2)
		begin(t, c, "b", first, 1)
		for now := first - 50; now < first+400; now++ {
			var want []client.Due
			switch {
			case slices.Contains(again, now-first):
				want = append(want, sent(1))
			case now-first == givenUp:
				want = append(want, over(1))
			}
			does(t, c, now, want...)
			does(t, c, now)
			lives(t, c, 1, now-first < givenUp)
			if t.Failed() {
				t.FailNow()
			}
		}
		holds(t, c, 0)
	}
}

// Ticks may go by unasked: all that was due is told at once, in order.
func TestP12_2Leaps(t *testing.T) {
	for _, now := range []int{320, 321, 5000, lastStart, maxTick, maxTick + 1, math.MaxInt} {
		c := table(t, 1)
		begin(t, c, "b", 0, 1)
		does(t, c, now, append(slices.Repeat([]client.Due{sent(1)}, 10), over(1))...)
		holds(t, c, 0)
		lives(t, c, 1, false)
		does(t, c, math.MaxInt)
		begin(t, c, "b", 0, 2)
	}
	for _, now := range []int{4, 0, -1, -maxTick, math.MinInt} {
		c := table(t, 1)
		begin(t, c, "b", 0, 1)
		does(t, c, now)
		lives(t, c, 1, true)
		does(t, c, 5, sent(1))
	}
}

func TestP12_2Order(t *testing.T) {
	c := table(t, 5)
	begin(t, c, "e", 10, 1)
	begin(t, c, "d", 0, 2)
	begin(t, c, "b", 10, 3)
	begin(t, c, "a", 5, 4)
	begin(t, c, "c", 30, 5)
	// 5: 2; 10: 4; 15: 1 2 3; 20: 4; 25: 1 3; 35: 2 5.
	does(t, c, 35, sent(2), sent(4), sent(1), sent(2), sent(3), sent(4), sent(1), sent(3), sent(2), sent(5))
	// 40: 4; 45: 1 3 5.
	does(t, c, 45, sent(4), sent(1), sent(3), sent(5))
	c.Step(318)
	// 320: 2 over, 4 sent; 325: 1 3 sent, 4 over; 330: 1 3 over; 345: 5 sent; 350: 5 over.
	does(t, c, 1000, over(2), sent(4), sent(1), sent(3), over(4), over(1), over(3), sent(5), over(5))
	holds(t, c, 0)
}

// Whose beginning comes in late, with a tick gone by, is not late for the others.
func TestP12_2BegunInThePast(t *testing.T) {
	c := table(t, 3)
	does(t, c, 1000)
	begin(t, c, "b", 900, 1)
	begin(t, c, "d", 0, 2)
	does(t, c, 10, sent(2))
	does(t, c, 15, sent(2))
	does(t, c, 904, append(slices.Repeat([]client.Due{sent(2)}, 8), over(2))...)
	does(t, c, 905, sent(1))
}

func TestP12_2Requests(t *testing.T) {
	all := []api.Sent{
		{To: "a", Bytes: "x"},
		{To: "a"},
		{Bytes: "x"},
		{},
		{To: "10.0.0.1:5060", Bytes: "NOTIFY sip:a@b SIP/2.0\r\n\r\n"},
		{To: "\xff\x00", Bytes: strings.Repeat("\x00\n", 5000)},
	}
	c := table(t, 10)
	for i, s := range all {
		if n, err := c.Start(name(i), 0, s); n != i+1 || err != api.OK {
			t.Fatal(n, err)
		}
	}
	for _, now := range again {
		does(t, c, now-1)
		var want []client.Due
		for i, s := range all {
			want = append(want, client.Due{ID: i + 1, Sent: s})
		}
		does(t, c, now, want...)
	}
	var want []client.Due
	for i := range all {
		want = append(want, over(i+1))
	}
	does(t, c, givenUp, want...)
}

// One that rests goes in silence, whatever is told of the others.
func TestP12_2Rest(t *testing.T) {
	for _, now := range []int{0, 3, 4, 5, 14, 100, 319, 320, 5000, lastResponse} {
		c := table(t, 2)
		begin(t, c, "b", 3, 1)
		answered(t, c, "b", now, 1)
		does(t, c, now)
		does(t, c, now+rest-1)
		holds(t, c, 1)
		starts(t, c, "b", 0, 0, api.ErrTwice)
		does(t, c, now+rest)
		holds(t, c, 0)
		does(t, c, math.MaxInt)
		begin(t, c, "b", 0, 2)
		does(t, c, 5, sent(2))
	}
	c := table(t, 3)
	begin(t, c, "b", 0, 1)
	begin(t, c, "d", 0, 2)
	begin(t, c, "e", 0, 3)
	answered(t, c, "d", 2, 2)
	does(t, c, 51, sent(1), sent(3), sent(1), sent(3), sent(1), sent(3))
	holds(t, c, 3)
	does(t, c, 52)
	holds(t, c, 2)
	answered(t, c, "b", 60, 1)
	does(t, c, 110, sent(3))
	holds(t, c, 1)
}

func TestP12_3Arguments(t *testing.T) {
	for _, x := range []struct {
		status, now int
		err         api.Errno
	}{
		{200, 0, api.OK},
		{200, 1, api.OK},
		{200, lastStart + 1, api.OK},
		{200, lastResponse - 1, api.OK},
		{200, lastResponse, api.OK},
		{200, lastResponse + 1, api.ErrArg},
		{200, maxTick, api.ErrArg},
		{200, math.MaxInt, api.ErrArg},
		{200, -1, api.ErrArg},
		{200, math.MinInt, api.ErrArg},
		{100, lastResponse + 1, api.ErrArg},
		{100, -1, api.ErrArg},
		{199, lastResponse, api.OK},
		{99, 0, api.ErrArg},
		{0, 0, api.ErrArg},
		{-200, 0, api.ErrArg},
		{math.MinInt, 0, api.ErrArg},
		{700, 0, api.ErrArg},
		{1200, 0, api.ErrArg},
		{1<<32 + 200, 0, api.ErrArg},
		{math.MaxInt, 0, api.ErrArg},
		{99, -1, api.ErrArg},
		{700, lastResponse + 1, api.ErrArg},
	} {
		c := table(t, 1)
		begin(t, c, "b", 0, 1)
		if x.err == api.OK {
			responds(t, c, "d", x.status, x.now, 0, false, api.ErrNone)
			responds(t, c, "b", x.status, x.now, 1, x.status >= 200, api.OK)
			lives(t, c, 1, x.status < 200)
			continue
		}
		responds(t, c, "d", x.status, x.now, 0, false, x.err)
		responds(t, c, "b", x.status, x.now, 0, false, x.err)
		lives(t, c, 1, true)
		does(t, c, 5, sent(1))
	}
}

func TestP12_3Statuses(t *testing.T) {
	for status := 90; status <= 710; status++ {
		c := table(t, 1)
		begin(t, c, "b", 0, 1)
		switch {
		case status < 100 || status > 699:
			responds(t, c, "b", status, 2, 0, false, api.ErrArg)
			lives(t, c, 1, true)
		case status < 200:
			responds(t, c, "b", status, 2, 1, false, api.OK)
			responds(t, c, "b", status, 3, 1, false, api.OK)
			lives(t, c, 1, true)
		default:
			responds(t, c, "b", status, 2, 1, true, api.OK)
			responds(t, c, "b", status, 3, 0, false, api.ErrNone)
			responds(t, c, "b", 100, 3, 0, false, api.ErrNone)
			lives(t, c, 1, false)
		}
		holds(t, c, 1)
	}
}

// A response that is not for good makes a request neither stop nor slow down.
func TestP12_3LesserChangesNothing(t *testing.T) {
	c := table(t, 1)
	begin(t, c, "b", 0, 1)
	for now := range 320 {
		if slices.Contains(again, now) {
			does(t, c, now, sent(1))
		} else {
			does(t, c, now)
		}
		for _, at := range []int{0, now, 1000, lastResponse} {
			responds(t, c, "b", 100+now%100, at, 1, false, api.OK)
		}
	}
	does(t, c, 320, over(1))
	responds(t, c, "b", 100, 320, 0, false, api.ErrNone)
}

func TestP12_3None(t *testing.T) {
	c := table(t, 2)
	responds(t, c, "b", 200, 0, 0, false, api.ErrNone)
	begin(t, c, "b", 0, 1)
	for _, b := range branches[1:] {
		responds(t, c, b, 200, 0, 0, false, api.ErrNone)
		responds(t, c, b, 100, 0, 0, false, api.ErrNone)
	}
	lives(t, c, 1, true)
	answered(t, c, "b", 10, 1)
	responds(t, c, "b", 200, 10, 0, false, api.ErrNone)
	responds(t, c, "b", 180, 10, 0, false, api.ErrNone)
	// Nor does a second answer make the rest longer.
	responds(t, c, "b", 200, 40, 0, false, api.ErrNone)
	does(t, c, 59)
	holds(t, c, 1)
	does(t, c, 60)
	holds(t, c, 0)
	responds(t, c, "b", 200, 60, 0, false, api.ErrNone)
	begin(t, c, "b", 60, 2)
	answered(t, c, "b", 60, 2)
	begin(t, c, "d", 60, 3)
	c.Step(380)
	responds(t, c, "d", 200, 380, 0, false, api.ErrNone)
}

func TestP12_3RestCountsFromNow(t *testing.T) {
	for _, x := range []struct{ first, now int }{{0, 0}, {0, 34}, {0, 319}, {1000, 0}, {1000, 999}, {0, 100000}, {lastStart, lastResponse}} {
		c := table(t, 1)
		begin(t, c, "b", x.first, 1)
		answered(t, c, "b", x.now, 1)
		does(t, c, x.now+49)
		holds(t, c, 1)
		does(t, c, x.now+50)
		holds(t, c, 0)
	}
}

// That one is given up is told by Step alone: no other call says that its tick has gone by.
func TestP12_3WaitsUntilAsked(t *testing.T) {
	c := table(t, 2)
	begin(t, c, "b", 0, 1)
	begin(t, c, "d", 5000, 2)
	lives(t, c, 1, true)
	starts(t, c, "b", 6000, 0, api.ErrTwice)
	starts(t, c, "e", 6000, 0, api.ErrFull)
	responds(t, c, "b", 100, 6000, 1, false, api.OK)
	answered(t, c, "b", 6000, 1)
	starts(t, c, "b", 7000, 0, api.ErrTwice)
	starts(t, c, "e", 7000, 0, api.ErrFull)
	holds(t, c, 2)
	does(t, c, 5004)
	does(t, c, 5005, sent(2))
}

func TestP12_4Live(t *testing.T) {
	c := table(t, 4)
	for _, n := range numbers {
		lives(t, c, n, false)
	}
	for i := range 4 {
		begin(t, c, name(i), 100*i, i+1)
	}
	for _, n := range numbers {
		lives(t, c, n, n >= 1 && n <= 4)
	}
	lives(t, c, 4, true)
	lives(t, c, 5, false)
	answered(t, c, name(1), 150, 2)
	lives(t, c, 1, true)
	lives(t, c, 2, false)
	lives(t, c, 3, true)
	holds(t, c, 4)
	c.Step(199)
	holds(t, c, 4)
	c.Step(200)
	holds(t, c, 3)
	lives(t, c, 2, false)
	c.Step(320)
	holds(t, c, 2)
	lives(t, c, 1, false)
	lives(t, c, 3, true)
	lives(t, c, 4, true)
	begin(t, c, name(1), 320, 5)
	lives(t, c, 2, false)
	lives(t, c, 5, true)
	holds(t, c, 3)
}

func TestP12_4Len(t *testing.T) {
	c := table(t, 200)
	for i := range 200 {
		holds(t, c, i)
		begin(t, c, name(i), 0, i+1)
	}
	for i := range 200 {
		answered(t, c, name(i), i, i+1)
		holds(t, c, 200)
		lives(t, c, i+1, false)
	}
	for i := range 200 {
		does(t, c, 49+i)
		holds(t, c, 200-i)
	}
	does(t, c, 249)
	holds(t, c, 0)
}

func TestP12_5Eleven(t *testing.T) {
	for _, leap := range []int{1, 2, 3, 7, 40, 100, 319, 320, 1000} {
		c := table(t, 1)
		begin(t, c, "b", 0, 1)
		var all []client.Due
		for now := 0; now < 1400; now += leap {
			all = append(all, c.Step(now)...)
		}
		if want := append(slices.Repeat([]client.Due{sent(1)}, 10), over(1)); !slices.Equal(all, want) {
			t.Errorf("in leaps of %d: %v", leap, all)
		}
	}
}

// Wherever an answer comes, what was due ahead of it is told and nothing behind it is.
func TestP12_5NoMoreBehindAnAnswer(t *testing.T) {
	for at := range 320 {
		c := table(t, 2)
		begin(t, c, "b", 0, 1)
		begin(t, c, "d", 0, 2)
		mine := 0
		for now := range 400 {
			for _, due := range c.Step(now) {
				if due.ID == 1 {
					mine++
				}
			}
			if now == at {
				answered(t, c, "b", now, 1)
			}
		}
		want := 0
		for _, tick := range again {
			if tick <= at {
				want++
			}
		}
		if mine != want {
			t.Errorf("answered at %d: sent again %d times, not %d", at, mine, want)
		}
		holds(t, c, 0)
	}
}

// What was due but not asked for is not told any more when an answer came in between.
func TestP12_5AnswerAheadOfAStep(t *testing.T) {
	c := table(t, 1)
	begin(t, c, "b", 0, 1)
	answered(t, c, "b", 34, 1)
	does(t, c, 34)
	does(t, c, 83)
	holds(t, c, 1)
	does(t, c, 84)
	holds(t, c, 0)
}

func TestP12_5TwoStepsAreOne(t *testing.T) {
	build := func() *client.Table {
		c := table(t, 6)
		for i, first := range []int{40, 0, 35, 5, 0, 20} {
			begin(t, c, name(i), first, i+1)
		}
		answered(t, c, name(2), 30, 3)
		return c
	}
	for last := 0; last <= 400; last += 5 {
		whole := build()
		all := whole.Step(last)
		for middle := -1; middle <= last; middle++ {
			c := build()
			parts := append(c.Step(middle), c.Step(last)...)
			if !slices.Equal(parts, all) || c.Len() != whole.Len() {
				t.Fatalf("Step(%d), Step(%d): %v, not %v", middle, last, parts, all)
			}
		}
	}
}

// apart tells whether no byte of two texts lies in one place.
func apart(a, b string) bool {
	if a == "" || b == "" {
		return true
	}
	x, y := uintptr(unsafe.Pointer(unsafe.StringData(a))), uintptr(unsafe.Pointer(unsafe.StringData(b)))
	return x+uintptr(len(a)) <= y || y+uintptr(len(b)) <= x
}

func TestRuleMemoryAnswers(t *testing.T) {
	c := table(t, 1)
	in := api.Sent{To: strings.Repeat("to", 9), Bytes: strings.Repeat("bytes", 9)}
	c.Start("b", 0, in)
	all := []api.Sent{in}
	for _, now := range []int{5, 35, 75} {
		for _, due := range c.Step(now) {
			all = append(all, due.Sent)
		}
	}
	if len(all) != 5 {
		t.Fatal(all)
	}
	for i, x := range all {
		if x != in {
			t.Errorf("%d: %v", i, x)
		}
		for _, y := range all[:i] {
			if !apart(x.To, y.To) || !apart(x.Bytes, y.Bytes) {
				t.Error("answers share memory")
			}
		}
	}
}

// borrowed is a text whose memory is changed behind its back, which no text of the language should see.
func borrowed(s string) (string, func()) {
	b := []byte(s)
	return unsafe.String(&b[0], len(b)), func() {
		for i := range b {
			b[i] = '#'
		}
	}
}

func TestRuleMemoryNothingKept(t *testing.T) {
	c := table(t, 1)
	branch, spoil1 := borrowed("branch")
	to, spoil2 := borrowed("to-whom")
	bytes, spoil3 := borrowed("what is asked")
	if n, err := c.Start(branch, 0, api.Sent{To: to, Bytes: bytes}); n != 1 || err != api.OK {
		t.Fatal(n, err)
	}
	for _, spoil := range []func(){spoil1, spoil2, spoil3} {
		spoil()
	}
	starts(t, c, "branch", 0, 0, api.ErrTwice)
	does(t, c, 5, client.Due{ID: 1, Sent: api.Sent{To: "to-whom", Bytes: "what is asked"}})
	response, spoil4 := borrowed("branch")
	answered(t, c, response, 6, 1)
	spoil4()
	starts(t, c, "branch", 6, 0, api.ErrTwice)
	does(t, c, 56)
	begin(t, c, "branch", 56, 2)
}

func TestRuleMemoryStep(t *testing.T) {
	c := table(t, 4)
	begin(t, c, "b", 0, 1)
	begin(t, c, "d", 0, 2)
	l := c.Step(15)
	for i := range l {
		l[i] = over(9)
	}
	_ = append(l, over(8), over(7), over(6))
	does(t, c, 35, sent(1), sent(2))
	lives(t, c, 1, true)
	lives(t, c, 2, true)
}

// Two tables know nothing of each other.
func TestRuleTablesApart(t *testing.T) {
	a, b := table(t, 1), table(t, 2)
	begin(t, a, "b", 0, 1)
	responds(t, b, "b", 200, 0, 0, false, api.ErrNone)
	lives(t, b, 1, false)
	begin(t, b, "d", 7, 1)
	begin(t, b, "b", 8, 2)
	answered(t, a, "b", 1, 1)
	lives(t, b, 2, true)
	does(t, a, 9999)
	holds(t, b, 2)
	does(t, b, 12, sent(1))
}
