package server_test

import (
	"math"
	"slices"
	"strings"
	"testing"
	"unsafe"

	"roster/api"
	"roster/server"
)

// The limits as the document writes them, so that a wrong constant would be seen.
const (
	lifetime  = 320
	maxTick   = 1 << 40
	lastStart = maxTick - lifetime
)

// numbers are IDs and ticks far out and near by.
var numbers = []int{math.MinInt, -maxTick, -320, -2, -1, 0, 1, 2, 3, 319, 320, 321, 1 << 31, 1 << 32, lastStart, lastStart + 1, maxTick, maxTick + 1, math.MaxInt}

// table is a table for so many.
func table(t *testing.T, most int) *server.Table {
	t.Helper()
	s, err := server.New(most)
	if s == nil || err != api.OK {
		t.Fatalf("New(%d) = %v, %d", most, s, err)
	}
	return s
}

// starts asks Start, and what it should answer.
func starts(t *testing.T, s *server.Table, branch, by, method string, now, number int, err api.Errno) {
	t.Helper()
	if n, e := s.Start(branch, by, method, now); n != number || e != err {
		t.Errorf("Start(%q, %q, %q, %d) = %d, %d, not %d, %d", branch, by, method, now, n, e, number, err)
	}
}

// begin begins a transaction that is known by its branch alone.
func begin(t *testing.T, s *server.Table, branch string, now, number int) {
	t.Helper()
	starts(t, s, branch, "c", "X", now, number, api.OK)
}

// finds asks for the one of a branch; the number 0 stands for none.
func finds(t *testing.T, s *server.Table, branch string, number int) {
	t.Helper()
	if n, ok := s.Find(branch, "c", "X"); n != number || ok != (number != 0) {
		t.Errorf("Find(%q) = %d, %t, not %d", branch, n, ok, number)
	}
}

func answers(t *testing.T, s *server.Table, id int, x api.Sent, err api.Errno) {
	t.Helper()
	if e := s.Answer(id, x); e != err {
		t.Errorf("Answer(%d, %v) = %d, not %d", id, x, e, err)
	}
}

func cached(t *testing.T, s *server.Table, id int, want api.Sent, there bool) {
	t.Helper()
	if x, ok := s.Cached(id); x != want || ok != there {
		t.Errorf("Cached(%d) = %v, %t, not %v, %t", id, x, ok, want, there)
	}
}

func expires(t *testing.T, s *server.Table, now int, want ...int) {
	t.Helper()
	if got := s.Expire(now); !slices.Equal(got, want) {
		t.Errorf("Expire(%d) = %v, not %v", now, got, want)
	}
}

func holds(t *testing.T, s *server.Table, n int) {
	t.Helper()
	if got := s.Len(); got != n {
		t.Errorf("Len() = %d, not %d", got, n)
	}
}

// name is a text of its own for each number.
func name(i int) string { return "z9hG4bK" + strings.Repeat("a", i%20) + strings.Repeat("b", i/20) }

func TestP11_1New(t *testing.T) {
	for most := -3; most <= 210; most++ {
		s, err := server.New(most)
		if most < 1 || most > 200 {
			if s != nil || err != api.ErrRange {
				t.Errorf("New(%d) = %v, %d", most, s, err)
			}
			continue
		}
		if s == nil || err != api.OK {
			t.Fatalf("New(%d) = %v, %d", most, s, err)
		}
		holds(t, s, 0)
		finds(t, s, "", 0)
		expires(t, s, math.MaxInt)
		for i := range most {
			begin(t, s, name(i), i, i+1)
		}
		starts(t, s, name(most), "c", "X", 0, 0, api.ErrFull)
		holds(t, s, most)
	}
	for _, most := range []int{math.MinInt, math.MinInt32, -200, 201, 4096, 1<<32 + 1, math.MaxInt} {
		if s, err := server.New(most); s != nil || err != api.ErrRange {
			t.Errorf("New(%d) = %v, %d", most, s, err)
		}
	}
}

func TestP11_1Example(t *testing.T) {
	s := table(t, 1)
	starts(t, s, "b", "c", "X", 0, 1, api.OK)
	starts(t, s, "b", "c", "X", 9, 0, api.ErrTwice)
	starts(t, s, "d", "c", "X", 9, 0, api.ErrFull)
	expires(t, s, 319)
	expires(t, s, 320, 1)
	starts(t, s, "d", "c", "X", 320, 2, api.OK)
}

func TestP11_1StartNow(t *testing.T) {
	for _, x := range []struct {
		now int
		err api.Errno
	}{
		{0, api.OK},
		{1, api.OK},
		{319, api.OK},
		{1 << 31, api.OK},
		{1 << 32, api.OK},
		{lastStart - 1, api.OK},
		{lastStart, api.OK},
		{lastStart + 1, api.ErrArg},
		{maxTick - 1, api.ErrArg},
		{maxTick, api.ErrArg},
		{maxTick + 1, api.ErrArg},
		{math.MaxInt - 319, api.ErrArg},
		{math.MaxInt, api.ErrArg},
		{-1, api.ErrArg},
		{-320, api.ErrArg},
		{math.MinInt, api.ErrArg},
	} {
		s := table(t, 5)
		if x.err != api.OK {
			starts(t, s, "b", "c", "X", x.now, 0, x.err)
			holds(t, s, 0)
			finds(t, s, "b", 0)
			expires(t, s, math.MaxInt)
			begin(t, s, "b", 0, 1)
			continue
		}
		begin(t, s, "b", x.now, 1)
		finds(t, s, "b", 1)
		expires(t, s, x.now+319)
		finds(t, s, "b", 1)
		expires(t, s, x.now+320, 1)
		finds(t, s, "b", 0)
	}
}

// Where several errors apply, the one that the chapter names first is told.
func TestP11_1FirstError(t *testing.T) {
	s := table(t, 1)
	begin(t, s, "b", 7, 1)
	for _, x := range []struct {
		branch string
		now    int
		err    api.Errno
	}{
		{"b", -1, api.ErrArg},
		{"b", lastStart + 1, api.ErrArg},
		{"d", -1, api.ErrArg},
		{"d", lastStart + 1, api.ErrArg},
		{"b", 7, api.ErrTwice},
		{"b", 0, api.ErrTwice},
		{"b", lastStart, api.ErrTwice},
		{"d", 7, api.ErrFull},
		{"d", 0, api.ErrFull},
		{"d", lastStart, api.ErrFull},
	} {
		starts(t, s, x.branch, "c", "X", x.now, 0, x.err)
		holds(t, s, 1)
		finds(t, s, "b", 1)
		finds(t, s, "d", 0)
	}
	expires(t, s, 326)
	expires(t, s, 327, 1)
	begin(t, s, "d", 0, 2)
}

// near are requests of which no two are one: each text, in just its letters and its place, tells them apart.
func near() [][3]string {
	return [][3]string{
		{"b", "c", "X"}, {"B", "c", "X"}, {"b", "C", "X"}, {"b", "c", "x"},
		{"d", "c", "X"}, {"b", "d", "X"}, {"b", "c", "Y"},
		{"c", "b", "X"}, {"X", "c", "b"}, {"b", "X", "c"}, {"c", "X", "b"}, {"X", "b", "c"},
		{"", "c", "X"}, {"b", "", "X"}, {"b", "c", ""}, {"", "", ""}, {"", "", "X"}, {"", "c", ""}, {"b", "", ""},
		{"bc", "", "X"}, {"", "bc", "X"}, {"b", "cX", ""}, {"b", "", "cX"}, {"bcX", "", ""}, {"", "bcX", ""}, {"", "", "bcX"},
		{"b ", "c", "X"}, {" b", "c", "X"}, {"b", "c ", "X"}, {"b", "c", " X"}, {"b\x00c", "", "X"}, {"b", "c\x00X", ""},
		{"b\x00", "c", "X"}, {"b", "\x00c", "X"}, {"b|c", "X", ""}, {"b", "c|X", ""}, {"b,c,X", "", ""}, {"\xff", "c", "X"}, {"\xfe", "c", "X"}, {"\ufffd", "c", "X"},
		{"b", "c:5060", "X"}, {"b", "c:5061", "X"}, {"b\n", "c", "X"}, {"é", "c", "X"}, {"e\u0301", "c", "X"},
	}
}

func TestP11_1Twice(t *testing.T) {
	s := table(t, 200)
	all := near()
	for i, x := range all {
		if n, ok := s.Find(x[0], x[1], x[2]); n != 0 || ok {
			t.Errorf("Find(%q) = %d, %t, ahead of Start", x, n, ok)
		}
		starts(t, s, x[0], x[1], x[2], 100-i, i+1, api.OK)
		starts(t, s, x[0], x[1], x[2], 100-i, 0, api.ErrTwice)
	}
	holds(t, s, len(all))
	for i, x := range all {
		starts(t, s, x[0], x[1], x[2], 500, 0, api.ErrTwice)
		if n, ok := s.Find(x[0], x[1], x[2]); n != i+1 || !ok {
			t.Errorf("Find(%q) = %d, %t", x, n, ok)
		}
	}
	holds(t, s, len(all))
}

// That one comes again neither makes its time longer nor changes its number.
func TestP11_1TwiceChangesNothing(t *testing.T) {
	s := table(t, 3)
	begin(t, s, "b", 10, 1)
	answers(t, s, 1, api.Sent{To: "a", Bytes: "x"}, api.OK)
	for _, now := range []int{0, 10, 11, 329, 330, lastStart, lastStart + 1, -1} {
		if n, err := s.Start("b", "c", "X", now); n != 0 || err == api.OK {
			t.Errorf("Start again at %d = %d, %d", now, n, err)
		}
		finds(t, s, "b", 1)
		cached(t, s, 1, api.Sent{To: "a", Bytes: "x"}, true)
		holds(t, s, 1)
	}
	expires(t, s, 329)
	expires(t, s, 330, 1)
	begin(t, s, "d", 0, 2)
}

func TestP11_1NumbersCountOn(t *testing.T) {
	s := table(t, 2)
	for i := range 1000 {
		begin(t, s, name(i), 320*i, i+1)
		starts(t, s, name(i), "c", "X", 320*i, 0, api.ErrTwice)
		starts(t, s, name(i), "c", "X", -1, 0, api.ErrArg)
		if i%2 == 0 {
			expires(t, s, 320*i+320, i+1)
		} else {
			expires(t, s, 320*i+319)
			expires(t, s, 320*i+320, i+1)
		}
		holds(t, s, 0)
	}
	begin(t, s, "b", 0, 1001)
	begin(t, s, "d", 0, 1002)
	starts(t, s, "e", "c", "X", 0, 0, api.ErrFull)
	expires(t, s, 320, 1001, 1002)
	begin(t, s, "e", 0, 1003)
}

// nobody asks a table that no call made for everything, right and wrong.
func nobody(t *testing.T, s *server.Table) {
	t.Helper()
	for _, n := range numbers {
		for _, x := range near() {
			starts(t, s, x[0], x[1], x[2], n, 0, api.ErrNil)
			if n, ok := s.Find(x[0], x[1], x[2]); n != 0 || ok {
				t.Errorf("Find(%q) = %d, %t", x, n, ok)
			}
		}
		answers(t, s, n, api.Sent{}, api.ErrNil)
		answers(t, s, n, api.Sent{To: "a", Bytes: "x"}, api.ErrNil)
		cached(t, s, n, api.Sent{}, false)
		expires(t, s, n)
		holds(t, s, 0)
	}
}

func TestP11_1NilAndZero(t *testing.T) {
	nobody(t, nil)
	nobody(t, &server.Table{})
	nobody(t, new(server.Table))
}

func TestP11_2Find(t *testing.T) {
	s := table(t, 4)
	finds(t, s, "b", 0)
	begin(t, s, "b", 5, 1)
	begin(t, s, "d", 6, 2)
	for range 3 {
		finds(t, s, "b", 1)
		finds(t, s, "d", 2)
		finds(t, s, "", 0)
		finds(t, s, "e", 0)
	}
	for _, x := range near() {
		want := 0
		switch x {
		case [3]string{"b", "c", "X"}:
			want = 1
		case [3]string{"d", "c", "X"}:
			want = 2
		}
		if n, ok := s.Find(x[0], x[1], x[2]); n != want || ok != (want != 0) {
			t.Errorf("Find(%q) = %d, %t, not %d", x, n, ok, want)
		}
	}
	expires(t, s, 325, 1)
	finds(t, s, "b", 0)
	finds(t, s, "d", 2)
	holds(t, s, 1)
}

func TestP11_2Answer(t *testing.T) {
	for _, x := range []api.Sent{
		{To: "a", Bytes: "x"},
		{To: "a"},
		{Bytes: "x"},
		{},
		{To: "10.0.0.1:5060", Bytes: "SIP/2.0 200 OK\r\n\r\n"},
		{To: "\xff\x00", Bytes: strings.Repeat("\x00\n", 5000)},
	} {
		s := table(t, 3)
		begin(t, s, "b", 0, 1)
		begin(t, s, "d", 0, 2)
		cached(t, s, 1, api.Sent{}, false)
		answers(t, s, 1, x, api.OK)
		for range 3 {
			cached(t, s, 1, x, true)
			cached(t, s, 2, api.Sent{}, false)
		}
		for _, other := range []api.Sent{x, {}, {To: "q", Bytes: "r"}} {
			answers(t, s, 1, other, api.ErrTwice)
			cached(t, s, 1, x, true)
		}
		cached(t, s, 2, api.Sent{}, false)
		answers(t, s, 2, api.Sent{To: "q", Bytes: "r"}, api.OK)
		cached(t, s, 1, x, true)
		cached(t, s, 2, api.Sent{To: "q", Bytes: "r"}, true)
		finds(t, s, "b", 1)
		finds(t, s, "d", 2)
		holds(t, s, 2)
		expires(t, s, 319)
		expires(t, s, 320, 1, 2)
	}
}

func TestP11_2AnswerNone(t *testing.T) {
	s := table(t, 3)
	for number := 1; number <= 4; number++ {
		for _, n := range numbers {
			answers(t, s, n, api.Sent{To: "a", Bytes: "x"}, api.ErrNone)
			cached(t, s, n, api.Sent{}, false)
		}
		holds(t, s, 0)
		begin(t, s, "b", 0, number)
		expires(t, s, 320, number)
	}
}

// A number that is over is not one any more, not even when its request has begun anew.
func TestP11_2AnswerOver(t *testing.T) {
	s := table(t, 3)
	begin(t, s, "b", 0, 1)
	begin(t, s, "d", 9, 2)
	answers(t, s, 1, api.Sent{To: "a", Bytes: "x"}, api.OK)
	expires(t, s, 320, 1)
	for _, x := range []int{0, 1, 3, -2} {
		answers(t, s, x, api.Sent{To: "a", Bytes: "y"}, api.ErrNone)
		cached(t, s, x, api.Sent{}, false)
	}
	begin(t, s, "b", 320, 3)
	answers(t, s, 1, api.Sent{To: "a", Bytes: "y"}, api.ErrNone)
	cached(t, s, 1, api.Sent{}, false)
	cached(t, s, 3, api.Sent{}, false)
	answers(t, s, 3, api.Sent{To: "a", Bytes: "z"}, api.OK)
	cached(t, s, 3, api.Sent{To: "a", Bytes: "z"}, true)
	cached(t, s, 2, api.Sent{}, false)
	finds(t, s, "b", 3)
}

func TestP11_2Len(t *testing.T) {
	s := table(t, 200)
	for i := range 200 {
		holds(t, s, i)
		begin(t, s, name(i), i, i+1)
		starts(t, s, name(i), "c", "X", i, 0, api.ErrTwice)
		answers(t, s, i+1, api.Sent{}, api.OK)
	}
	holds(t, s, 200)
	starts(t, s, "d", "c", "X", 0, 0, api.ErrFull)
	holds(t, s, 200)
	for i := range 200 {
		expires(t, s, 320+i, i+1)
		holds(t, s, 199-i)
	}
}

func TestP11_3Expire(t *testing.T) {
	for _, x := range []struct {
		now  int
		want []int
	}{
		{math.MinInt, nil},
		{-1, nil},
		{0, nil},
		{319, nil},
		{320, []int{4}},
		{321, []int{4}},
		{324, []int{4}},
		{325, []int{2, 4, 5}},
		{329, []int{2, 4, 5}},
		{330, []int{1, 2, 4, 5}},
		{maxTick - 1, []int{1, 2, 4, 5}},
		{maxTick, []int{1, 2, 3, 4, 5}},
		{maxTick + 1, []int{1, 2, 3, 4, 5}},
		{math.MaxInt, []int{1, 2, 3, 4, 5}},
	} {
		s := table(t, 5)
		branches := []string{"b", "d", "e", "f", "g"}
		for i, now := range []int{10, 5, lastStart, 0, 5} {
			begin(t, s, branches[i], now, i+1)
			answers(t, s, i+1, api.Sent{To: branches[i]}, api.OK)
		}
		expires(t, s, x.now, x.want...)
		expires(t, s, x.now)
		holds(t, s, 5-len(x.want))
		for i, branch := range branches {
			if slices.Contains(x.want, i+1) {
				finds(t, s, branch, 0)
				cached(t, s, i+1, api.Sent{}, false)
				answers(t, s, i+1, api.Sent{}, api.ErrNone)
			} else {
				finds(t, s, branch, i+1)
				cached(t, s, i+1, api.Sent{To: branch}, true)
				answers(t, s, i+1, api.Sent{}, api.ErrTwice)
			}
		}
	}
}

// Those that were begun last may be over first: their numbers still rise.
func TestP11_3Rising(t *testing.T) {
	s := table(t, 200)
	var all []int
	for i := range 200 {
		begin(t, s, name(i), (199-i)*7%1000, i+1)
		all = append(all, i+1)
	}
	expires(t, s, 319)
	expires(t, s, 2000, all...)
	expires(t, s, 2000)
	holds(t, s, 0)
}

// One whose time is over stays until Expire is asked: no other call tells the tick.
func TestP11_3StaysUntilAsked(t *testing.T) {
	s := table(t, 2)
	begin(t, s, "b", 0, 1)
	begin(t, s, "d", 5000, 2)
	starts(t, s, "b", "c", "X", 6000, 0, api.ErrTwice)
	starts(t, s, "e", "c", "X", 6000, 0, api.ErrFull)
	finds(t, s, "b", 1)
	holds(t, s, 2)
	answers(t, s, 1, api.Sent{To: "a"}, api.OK)
	expires(t, s, 319)
	expires(t, s, 6000, 1, 2)
}

func TestP11_4Again(t *testing.T) {
	s := table(t, 1)
	number := 0
	for begun := 0; begun < 10000; begun += 320 {
		number++
		begin(t, s, "b", begun, number)
		said := api.Sent{To: "a", Bytes: name(number)}
		answers(t, s, number, said, api.OK)
		for now := begun; now < begun+320; now += 29 {
			expires(t, s, now)
			finds(t, s, "b", number)
			cached(t, s, number, said, true)
			starts(t, s, "b", "c", "X", now, 0, api.ErrTwice)
		}
		expires(t, s, begun+319)
		finds(t, s, "b", number)
		cached(t, s, number, said, true)
		expires(t, s, begun+320, number)
		finds(t, s, "b", 0)
		cached(t, s, number, api.Sent{}, false)
	}
}

func TestP11_4NeverMore(t *testing.T) {
	for _, most := range []int{1, 2, 3, 7, 199, 200} {
		s := table(t, most)
		for round := range 3 {
			for i := range 3 * most {
				n, err := s.Start(name(i), "c", "X", 320*round)
				if i < most && (n != most*round+i+1 || err != api.OK) || i >= most && (n != 0 || err != api.ErrFull) {
					t.Fatalf("%d of %d: %d, %d", i, most, n, err)
				}
				holds(t, s, min(i+1, most))
			}
			if got := s.Expire(320*round + 320); len(got) != most {
				t.Fatalf("Expire = %v", got)
			}
		}
	}
}

// apart tells whether no byte of two texts lies in one place.
func apart(a, b string) bool {
	if a == "" || b == "" {
		return true
	}
	x, y := uintptr(unsafe.Pointer(unsafe.StringData(a))), uintptr(unsafe.Pointer(unsafe.StringData(b)))
	return x+uintptr(len(a)) <= y || y+uintptr(len(b)) <= x
}

func TestRuleMemoryAnswers(t *testing.T) {
	s := table(t, 1)
	begin(t, s, "b", 0, 1)
	in := api.Sent{To: strings.Repeat("to", 9), Bytes: strings.Repeat("bytes", 9)}
	answers(t, s, 1, in, api.OK)
	one, _ := s.Cached(1)
	two, _ := s.Cached(1)
	if one != in || two != in {
		t.Fatal(one, two)
	}
	for _, x := range [][2]api.Sent{{in, one}, {in, two}, {one, two}} {
		if !apart(x[0].To, x[1].To) || !apart(x[0].Bytes, x[1].Bytes) {
			t.Error("answers share memory")
		}
	}
}

// borrowed is a text whose memory is changed behind its back, which no text of the language should see.
func borrowed(s string) (string, func()) {
	b := []byte(s)
	return unsafe.String(&b[0], len(b)), func() {
		for i := range b {
			b[i] = '#'
		}
	}
}

func TestRuleMemoryNothingKept(t *testing.T) {
	s := table(t, 1)
	branch, spoil1 := borrowed("branch")
	by, spoil2 := borrowed("host:5060")
	method, spoil3 := borrowed("NOTIFY")
	starts(t, s, branch, by, method, 0, 1, api.OK)
	to, spoil4 := borrowed("to-whom")
	bytes, spoil5 := borrowed("what was said")
	answers(t, s, 1, api.Sent{To: to, Bytes: bytes}, api.OK)
	for _, spoil := range []func(){spoil1, spoil2, spoil3, spoil4, spoil5} {
		spoil()
	}
	if n, ok := s.Find("branch", "host:5060", "NOTIFY"); n != 1 || !ok {
		t.Errorf("Find = %d, %t", n, ok)
	}
	starts(t, s, "branch", "host:5060", "NOTIFY", 0, 0, api.ErrTwice)
	cached(t, s, 1, api.Sent{To: "to-whom", Bytes: "what was said"}, true)
	expires(t, s, 320, 1)
	starts(t, s, "branch", "host:5060", "NOTIFY", 0, 2, api.OK)
}

func TestRuleMemoryExpire(t *testing.T) {
	s := table(t, 4)
	begin(t, s, "b", 0, 1)
	begin(t, s, "d", 0, 2)
	begin(t, s, "e", 9, 3)
	l := s.Expire(320)
	for i := range l {
		l[i] = 3
	}
	_ = append(l, 3, 3, 3)
	finds(t, s, "e", 3)
	expires(t, s, 329, 3)
	begin(t, s, "b", 0, 4)
	expires(t, s, 320, 4)
}

// Two tables know nothing of each other.
func TestRuleTablesApart(t *testing.T) {
	a, b := table(t, 1), table(t, 2)
	begin(t, a, "b", 0, 1)
	finds(t, b, "b", 0)
	begin(t, b, "d", 7, 1)
	begin(t, b, "b", 8, 2)
	answers(t, a, 1, api.Sent{To: "a"}, api.OK)
	cached(t, b, 1, api.Sent{}, false)
	expires(t, a, 9999, 1)
	holds(t, b, 2)
	expires(t, b, 327, 1)
}
