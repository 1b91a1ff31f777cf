package pub_test

import (
	"math"
	"slices"
	"strconv"
	"strings"
	"testing"

	"roster/api"
	"roster/pub"
)

// The limits as the document writes them, so that a wrong constant would be seen.
const (
	lastNow     = 1 << 39
	mostSeconds = 1<<31 - 1
)

// config is a set-up for so many publications.
func config(pubs int) api.Config {
	return api.Config{Host: "pa.home", Calls: 1, Pubs: pubs, Subs: 1, Least: 60, Usual: 600, Most: 3600}
}

// store is a store of a set-up.
func store(t *testing.T, c api.Config) *pub.Store {
	t.Helper()
	s, err := pub.New(c)
	if s == nil || err != api.OK {
		t.Fatalf("New(%v) = %v, %d", c, s, err)
	}
	return s
}

// notes is a document of a@b with these notes.
func notes(l ...string) api.Doc { return api.Doc{Entity: "a@b", Notes: l} }

// fresh asks for a publication that is not there yet.
func fresh(who, tag string, expires int) pub.Ask {
	return pub.Ask{Who: who, Expires: expires, Has: true, Doc: notes(tag), Tag: tag}
}

// longer asks that a publication lives on, as it is.
func longer(who, match, tag string, expires int) pub.Ask {
	return pub.Ask{Who: who, Match: match, Expires: expires, Tag: tag}
}

// does asks Do, and what it should answer.
func does(t *testing.T, s *pub.Store, now int, a pub.Ask, want pub.Told) {
	t.Helper()
	if got, err := s.Do(now, a); got != want || err != api.OK {
		t.Errorf("Do(%d, %.300v) = %v, %d, not %v", now, a, got, err, want)
	}
}

// fails asks Do for something that it has an error of.
func fails(t *testing.T, s *pub.Store, now int, a pub.Ask, want api.Errno) {
	t.Helper()
	if got, err := s.Do(now, a); got != (pub.Told{}) || err != want {
		t.Errorf("Do(%d, %.300v) = %v, %d, not %d", now, a, got, err, want)
	}
}

// begins begins a publication, for as long as it asks for.
func begins(t *testing.T, s *pub.Store, now int, a pub.Ask) {
	t.Helper()
	does(t, s, now, a, pub.Told{Status: 200, Expires: a.Expires, Tag: a.Tag, Changed: true})
}

func expires(t *testing.T, s *pub.Store, now int, want ...string) {
	t.Helper()
	if got := s.Expire(now); !slices.Equal(got, want) {
		t.Errorf("Expire(%d) = %q, not %q", now, got, want)
	}
}

func holds(t *testing.T, s *pub.Store, n int) {
	t.Helper()
	if got := s.Len(); got != n {
		t.Errorf("Len() = %d, not %d", got, n)
	}
}

// alike tells whether two publications are one; nil and empty lists are alike.
func alike(a, b api.Pub) bool {
	return a.Number == b.Number && a.Who == b.Who && a.Tag == b.Tag && a.Until == b.Until && sameDoc(a.Doc, b.Doc)
}

func sameDoc(a, b api.Doc) bool {
	return a.Entity == b.Entity && slices.Equal(a.Tuples, b.Tuples) && slices.Equal(a.Notes, b.Notes)
}

func lives(t *testing.T, s *pub.Store, who string, want ...api.Pub) {
	t.Helper()
	if got := s.Live(who); !slices.EqualFunc(got, want, alike) {
		t.Errorf("Live(%q) = %.500v, not %.500v", who, got, want)
	}
}

// name is a text of its own for each number.
func name(i int) string { return "t" + strconv.Itoa(i) }

// rights are set-ups that may be.
func rights() []api.Config {
	return []api.Config{
		config(1),
		{Calls: 1, Pubs: 1, Subs: 1, Least: 1, Usual: 1, Most: 1},
		{Calls: 200, Pubs: 200, Subs: 200, Least: 1, Usual: 1, Most: 1},
		{Calls: 200, Pubs: 1, Subs: 1, Least: 1, Usual: 1, Most: 2},
		{Calls: 1, Pubs: 200, Subs: 1, Least: 1, Usual: 2, Most: 2},
		{Calls: 1, Pubs: 1, Subs: 200, Least: 1, Usual: 2, Most: 3},
		{Calls: 2, Pubs: 3, Subs: 4, Least: mostSeconds, Usual: mostSeconds, Most: mostSeconds},
		{Calls: 2, Pubs: 3, Subs: 4, Least: 1, Usual: mostSeconds, Most: mostSeconds},
		{Calls: 2, Pubs: 3, Subs: 4, Least: 1, Usual: 1, Most: mostSeconds},
		{Host: "no host!", Calls: 1, Pubs: 1, Subs: 1, Least: 1, Usual: 1, Most: 1},
		{Host: strings.Repeat("x", 5000), Calls: 1, Pubs: 1, Subs: 1, Least: 1, Usual: 1, Most: 1},
	}
}

// wrongs are set-ups that may not be: in each, one thing alone is wrong.
func wrongs() []api.Config {
	l := []api.Config{
		{Calls: 1, Pubs: 1, Subs: 1, Least: 0, Usual: 600, Most: 3600},
		{Calls: 1, Pubs: 1, Subs: 1, Least: 0, Usual: 0, Most: 0},
		{Calls: 1, Pubs: 1, Subs: 1, Least: -1, Usual: 600, Most: 3600},
		{Calls: 1, Pubs: 1, Subs: 1, Least: math.MinInt, Usual: 600, Most: 3600},
		{Calls: 1, Pubs: 1, Subs: 1, Least: 601, Usual: 600, Most: 3600},
		{Calls: 1, Pubs: 1, Subs: 1, Least: 60, Usual: 59, Most: 3600},
		{Calls: 1, Pubs: 1, Subs: 1, Least: 60, Usual: -1, Most: 3600},
		{Calls: 1, Pubs: 1, Subs: 1, Least: 60, Usual: 3601, Most: 3600},
		{Calls: 1, Pubs: 1, Subs: 1, Least: 60, Usual: 600, Most: 599},
		{Calls: 1, Pubs: 1, Subs: 1, Least: 60, Usual: 60, Most: 59},
		{Calls: 1, Pubs: 1, Subs: 1, Least: 60, Usual: 600, Most: mostSeconds + 1},
		{Calls: 1, Pubs: 1, Subs: 1, Least: 60, Usual: mostSeconds + 1, Most: mostSeconds + 1},
		{Calls: 1, Pubs: 1, Subs: 1, Least: 60, Usual: 600, Most: math.MaxInt},
		{},
	}
	for _, n := range []int{math.MinInt, -200, -1, 0, 201, 4096, 1<<32 + 1, math.MaxInt} {
		calls, pubs, subs := config(1), config(n), config(1)
		calls.Calls, subs.Subs = n, n
		l = append(l, calls, pubs, subs)
	}
	return l
}

func TestP16_1Right(t *testing.T) {
	for _, c := range rights() {
		if !pub.Right(c) {
			t.Errorf("Right(%v) is false", c)
		}
	}
	for _, c := range wrongs() {
		if pub.Right(c) {
			t.Errorf("Right(%v) is true", c)
		}
	}
}

// Each field is moved over its edges, while the others stand where they may be.
func TestP16_1RightEdges(t *testing.T) {
	for n := -2; n <= 210; n++ {
		may := n >= 1 && n <= 200
		for i := range 3 {
			c := config(7)
			*[]*int{&c.Calls, &c.Pubs, &c.Subs}[i] = n
			if pub.Right(c) != may {
				t.Errorf("Right(%v) is %t", c, !may)
			}
		}
	}
	times := []int{-1, 0, 1, 2, 3, 4, mostSeconds - 1, mostSeconds, mostSeconds + 1}
	for _, least := range times {
		for _, usual := range times {
			for _, most := range times {
				c := api.Config{Calls: 1, Pubs: 1, Subs: 1, Least: least, Usual: usual, Most: most}
				may := 0 < least && least < usual+1 && usual < most+1 && most < 1<<31
				if pub.Right(c) != may {
					t.Errorf("Right(%v) is %t", c, !may)
				}
			}
		}
	}
}

func TestP16_1Seconds(t *testing.T) {
	for _, x := range []struct {
		asked, n int
		ok       bool
	}{
		{math.MinInt, 600, true},
		{-2, 600, true},
		{-1, 600, true},
		{0, 0, true},
		{1, 1, false},
		{30, 30, false},
		{59, 59, false},
		{60, 60, true},
		{61, 61, true},
		{599, 599, true},
		{600, 600, true},
		{601, 601, true},
		{3599, 3599, true},
		{3600, 3600, true},
		{3601, 3600, true},
		{9999, 3600, true},
		{mostSeconds, 3600, true},
		{math.MaxInt, 3600, true},
	} {
		if n, ok := pub.Seconds(config(1), x.asked); n != x.n || ok != x.ok {
			t.Errorf("Seconds(%d) = %d, %t, not %d, %t", x.asked, n, ok, x.n, x.ok)
		}
	}
}

// A set-up that may not be is asked like any other: what it says is taken as it stands.
func TestP16_1SecondsOfAnySetUp(t *testing.T) {
	for _, x := range []struct {
		least, usual, most, asked, n int
		ok                           bool
	}{
		{1, 1, 1, 1, 1, true},
		{1, 1, 1, 2, 1, true},
		{1, 1, 1, 0, 0, true},
		{mostSeconds, mostSeconds, mostSeconds, mostSeconds - 1, mostSeconds - 1, false},
		{mostSeconds, mostSeconds, mostSeconds, mostSeconds, mostSeconds, true},
		{mostSeconds, mostSeconds, mostSeconds, mostSeconds + 1, mostSeconds, true},
		{0, 0, 0, -1, 0, true},
		{0, 0, 0, 0, 0, true},
		{0, 0, 0, 1, 0, true},
		{9, -5, 7, -1, -5, true},
		{9, -5, 7, 7, 7, false},
		{9, -5, 7, 8, 7, true},
		{9, 5, -7, 0, -7, true},
		{9, 5, -7, -8, 5, true},
		{-9, 5, 7, 1, 1, true},
		{0, 5, math.MaxInt, math.MaxInt, math.MaxInt, true},
	} {
		c := api.Config{Least: x.least, Usual: x.usual, Most: x.most}
		if n, ok := pub.Seconds(c, x.asked); n != x.n || ok != x.ok {
			t.Errorf("Seconds(%v, %d) = %d, %t, not %d, %t", c, x.asked, n, ok, x.n, x.ok)
		}
	}
}

func TestP16_1New(t *testing.T) {
	for _, c := range rights() {
		s := store(t, c)
		holds(t, s, 0)
		lives(t, s, "a@b")
		lives(t, s, "")
		expires(t, s, math.MaxInt)
		for i := range c.Pubs {
			begins(t, s, i, fresh("a@b", name(i), c.Usual))
		}
		does(t, s, 0, fresh("a@b", name(c.Pubs), c.Usual), pub.Told{Status: 503})
		holds(t, s, c.Pubs)
	}
	for _, c := range wrongs() {
		if s, err := pub.New(c); s != nil || err != api.ErrArg {
			t.Errorf("New(%v) = %v, %d", c, s, err)
		}
	}
}

func TestP16_2NilAndZero(t *testing.T) {
	for _, s := range []*pub.Store{nil, {}, new(pub.Store)} {
		fails(t, s, 0, fresh("a@b", "x", 60), api.ErrNil)
		// Of several errors, this one is told.
		fails(t, s, -1, fresh("a@b", "x", 60), api.ErrNil)
		fails(t, s, 0, pub.Ask{}, api.ErrNil)
		fails(t, s, 0, longer("a@b", "x", "y", 60), api.ErrNil)
		if l := s.Expire(math.MaxInt); len(l) != 0 {
			t.Errorf("Expire() = %q", l)
		}
		if l := s.Live("a@b"); len(l) != 0 {
			t.Errorf("Live() = %v", l)
		}
		holds(t, s, 0)
	}
}

func TestP16_3Expire(t *testing.T) {
	s := store(t, config(9))
	begins(t, s, 0, fresh("b@b", "b1", 70))
	begins(t, s, 0, fresh("a@b", "a1", 60))
	begins(t, s, 0, fresh("c@b", "c1", 61))
	begins(t, s, 5, fresh("a@b", "a2", 60))
	begins(t, s, 0, fresh("B@b", "B1", 70))
	begins(t, s, 0, fresh("a@b", "a3", 70))
	begins(t, s, 0, fresh("", "n1", 70))
	for _, now := range []int{math.MinInt, -1, 0, 1, 59, 60, 599} {
		expires(t, s, now)
	}
	holds(t, s, 7)
	expires(t, s, 600, "a@b")
	expires(t, s, 600)
	holds(t, s, 6)
	expires(t, s, 604)
	expires(t, s, 605, "a@b")
	lives(t, s, "a@b", api.Pub{Number: 6, Who: "a@b", Tag: "a3", Until: 700, Doc: notes("a3")})
	expires(t, s, 609)
	expires(t, s, 699, "c@b")
	lives(t, s, "c@b")
	expires(t, s, 700, "", "B@b", "a@b", "b@b")
	holds(t, s, 0)
	expires(t, s, math.MaxInt)
}

// Each is told once, however many publications of theirs are over, in whatever order they were begun and end.
func TestP16_3RisingOnce(t *testing.T) {
	whose := []string{"z@b", "a@b", "aa@b", "a@a", "\xff", "é", "a", "Z@b", "", "a@b\x00"}
	want := slices.Sorted(slices.Values(whose))
	for turn := range len(whose) {
		s := store(t, config(200))
		for i := range 3 * len(whose) {
			begins(t, s, 100-i, fresh(whose[(i*7+turn)%len(whose)], name(i), 60+i%4))
		}
		expires(t, s, 570)
		expires(t, s, 730, want...)
		holds(t, s, 0)
	}
}

func TestP16_3All(t *testing.T) {
	s := store(t, config(200))
	for i := range 200 {
		begins(t, s, 0, fresh("a@b", name(i), 3600))
	}
	expires(t, s, 35999)
	holds(t, s, 200)
	expires(t, s, 36000, "a@b")
	holds(t, s, 0)
	lives(t, s, "a@b")
	for i := range 200 {
		does(t, s, 36000, longer("a@b", name(i), "new", 60), pub.Told{Status: 412})
	}
}

// Farther than the last tick that is, nothing lives.
func TestP16_3Last(t *testing.T) {
	c := config(2)
	c.Most = mostSeconds
	s := store(t, c)
	begins(t, s, lastNow, fresh("a@b", "x", mostSeconds))
	lives(t, s, "a@b", api.Pub{Number: 1, Who: "a@b", Tag: "x", Until: 1<<39 + 21474836470, Doc: notes("x")})
	expires(t, s, 1<<39+21474836469)
	expires(t, s, 1<<39+21474836470, "a@b")
	begins(t, s, lastNow, fresh("a@b", "y", mostSeconds))
	expires(t, s, 1<<40, "a@b")
	holds(t, s, 0)
}

// One whose time is over is still there, until Expire is asked.
func TestP16_3StaysUntilAsked(t *testing.T) {
	s := store(t, config(1))
	begins(t, s, 0, fresh("a@b", "x", 60))
	does(t, s, 1000, fresh("a@b", "y", 60), pub.Told{Status: 503})
	fails(t, s, 1000, fresh("a@b", "x", 60), api.ErrArg)
	holds(t, s, 1)
	does(t, s, 1000, longer("a@b", "x", "y", 60), pub.Told{Status: 200, Expires: 60, Tag: "y"})
	expires(t, s, 1599)
	expires(t, s, 1600, "a@b")
	begins(t, s, 1600, fresh("a@b", "y", 60))
}

// Nothing of one that is over is left: neither its tag nor its room.
func TestP16_3LeavesNothing(t *testing.T) {
	s := store(t, config(1))
	for i := range 300 {
		begins(t, s, 600*i, fresh("a@b", "x", 60))
		fails(t, s, 600*i, fresh("a@b", "x", 60), api.ErrArg)
		expires(t, s, 600*i+600, "a@b")
		does(t, s, 600*i, longer("a@b", "x", "y", 0), pub.Told{Status: 412})
	}
	begins(t, s, 0, fresh("c@d", "x", 60))
	lives(t, s, "c@d", api.Pub{Number: 301, Who: "c@d", Tag: "x", Until: 600, Doc: notes("x")})
}

func TestP16_4Live(t *testing.T) {
	s := store(t, config(200))
	whose := []string{"a@b", "A@b", "", "a@b ", "a@", "a@bb", "\xff", "\xfe", "\ufffd"}
	all := map[string][]api.Pub{}
	for i := range 150 {
		who := whose[i*i%len(whose)]
		begins(t, s, 500-i, fresh(who, name(i), 60))
		all[who] = append(all[who], api.Pub{Number: i + 1, Who: who, Tag: name(i), Until: 1100 - i, Doc: notes(name(i))})
	}
	for _, who := range whose {
		lives(t, s, who, all[who]...)
	}
	for _, who := range []string{"b@a", "a", "@b", " a@b", "é"} {
		lives(t, s, who)
	}
	holds(t, s, 150)
}

// Their numbers put them in order, whatever comes of them.
func TestP16_4LiveStaysInOrder(t *testing.T) {
	s := store(t, config(5))
	for i := range 5 {
		begins(t, s, 0, fresh("a@b", name(i), 100))
	}
	does(t, s, 9, longer("a@b", name(0), "z", 3600), pub.Told{Status: 200, Expires: 3600, Tag: "z"})
	does(t, s, 9, longer("a@b", name(3), "y", 60), pub.Told{Status: 200, Expires: 60, Tag: "y"})
	does(t, s, 9, longer("a@b", name(1), "w", 0), pub.Told{Status: 200, Tag: "w", Changed: true})
	begins(t, s, 9, fresh("a@b", "A", 60))
	want := []api.Pub{
		{Number: 1, Who: "a@b", Tag: "z", Until: 36009, Doc: notes(name(0))},
		{Number: 3, Who: "a@b", Tag: name(2), Until: 1000, Doc: notes(name(2))},
		{Number: 4, Who: "a@b", Tag: "y", Until: 609, Doc: notes(name(3))},
		{Number: 5, Who: "a@b", Tag: name(4), Until: 1000, Doc: notes(name(4))},
		{Number: 6, Who: "a@b", Tag: "A", Until: 609, Doc: notes("A")},
	}
	for range 20 {
		lives(t, s, "a@b", want...)
	}
}

func TestP16_4Len(t *testing.T) {
	s := store(t, config(3))
	for i, who := range []string{"a@b", "c@d", "a@b"} {
		holds(t, s, i)
		begins(t, s, 0, fresh(who, name(i), 60+i))
	}
	holds(t, s, 3)
	does(t, s, 0, longer("a@b", name(0), "x", 60), pub.Told{Status: 200, Expires: 60, Tag: "x"})
	holds(t, s, 3)
	does(t, s, 0, longer("c@d", name(1), "y", 0), pub.Told{Status: 200, Tag: "y", Changed: true})
	holds(t, s, 2)
	expires(t, s, 619, "a@b")
	holds(t, s, 1)
	expires(t, s, 620, "a@b")
	holds(t, s, 0)
}
