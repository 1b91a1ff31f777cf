package pub_test

import (
	"math"
	"slices"
	"strings"
	"testing"
	"unsafe"

	"roster/api"
	"roster/pub"
)

// full is a document with all that one can say.
func full(mark string) api.Doc {
	return api.Doc{
		Entity: "bob@home",
		Tuples: []api.Tuple{
			{ID: "t" + mark, Open: true, Contact: "sip:bob@" + mark, Priority: 500, Note: "at home " + mark},
			{ID: "u" + mark, Priority: -1},
		},
		Notes: []string{"one " + mark, "two " + mark},
	}
}

// wrongDocs are documents that may not be, each for a reason of its own.
func wrongDocs() []api.Doc {
	return []api.Doc{
		{},
		{Entity: "a"},
		{Entity: "a@b", Notes: []string{""}},
		{Entity: "a@b", Notes: slices.Repeat([]string{"n"}, 17)},
		{Entity: "a@b", Tuples: []api.Tuple{{ID: "t"}}},
		{Entity: "a@b", Tuples: []api.Tuple{{ID: "", Priority: -1}}},
		{Entity: "a@b", Tuples: []api.Tuple{{ID: "t", Priority: -1}, {ID: "t", Priority: -1}}},
	}
}

// notTokens are texts that may not be tags.
var notTokens = []string{"", " ", "a b", "x ", " x", "x\n", "a,b", "a;b", "a/b", "a@b", "(x)", "\"x\"", "é", "\xff", "\x00", "x:y", "x=y", "[x]", strings.Repeat("x", 65), strings.Repeat("x", 5000)}

// tokens are texts that may be tags, of which no two are one.
var tokens = []string{"x", "X", "0", "00", "-", ".", "!%*_+`'~", "z9hG4bK", "a.b-c", strings.Repeat("x", 63), strings.Repeat("x", 64), strings.Repeat("x", 63) + "X"}

// The chapter's example.
func TestP16_2Example(t *testing.T) {
	s := store(t, config(1))
	does(t, s, 0, fresh("a@b", "x", 30), pub.Told{Status: 423, Expires: 60})
	does(t, s, 0, fresh("a@b", "x", -1), pub.Told{Status: 200, Expires: 600, Tag: "x", Changed: true})
	does(t, s, 0, longer("a@b", "x", "y", 0), pub.Told{Status: 200, Tag: "y", Changed: true})
	does(t, s, 0, longer("a@b", "x", "y", 0), pub.Told{Status: 412})
}

func TestP16_2Now(t *testing.T) {
	for _, x := range []struct {
		now int
		may bool
	}{
		{math.MinInt, false}, {-lastNow, false}, {-2, false}, {-1, false},
		{0, true}, {1, true}, {1 << 31, true}, {1 << 32, true}, {lastNow - 1, true}, {lastNow, true},
		{lastNow + 1, false}, {1<<40 - 1, false}, {1 << 40, false}, {1<<40 + 1, false}, {math.MaxInt, false},
	} {
		s := store(t, config(2))
		begins(t, s, 7, fresh("a@b", "x", 60))
		if x.may {
			begins(t, s, x.now, fresh("c@d", "y", 70))
			does(t, s, x.now, longer("a@b", "x", "z", 61), pub.Told{Status: 200, Expires: 61, Tag: "z"})
			does(t, s, x.now, longer("a@b", "x", "v", 61), pub.Told{Status: 412})
			lives(t, s, "c@d", api.Pub{Number: 2, Who: "c@d", Tag: "y", Until: x.now + 700, Doc: notes("y")})
			lives(t, s, "a@b", api.Pub{Number: 1, Who: "a@b", Tag: "z", Until: x.now + 610, Doc: notes("x")})
			continue
		}
		fails(t, s, x.now, fresh("c@d", "y", 70), api.ErrArg)
		fails(t, s, x.now, longer("a@b", "x", "z", 61), api.ErrArg)
		fails(t, s, x.now, longer("a@b", "x", "z", 0), api.ErrArg)
		fails(t, s, x.now, longer("a@b", "w", "z", 61), api.ErrArg)
		fails(t, s, x.now, fresh("c@d", "y", 1), api.ErrArg)
		lives(t, s, "c@d")
		lives(t, s, "a@b", api.Pub{Number: 1, Who: "a@b", Tag: "x", Until: 607, Doc: notes("x")})
	}
}

// A wrong tag is told ahead of all answers, whatever is asked.
func TestP16_2Tags(t *testing.T) {
	for _, tag := range notTokens {
		s := store(t, config(2))
		begins(t, s, 0, fresh("a@b", "old", 60))
		fails(t, s, 0, fresh("a@b", tag, 60), api.ErrArg)
		fails(t, s, 0, fresh("a@b", tag, 1), api.ErrArg)
		fails(t, s, 0, pub.Ask{Who: "a@b", Tag: tag}, api.ErrArg)
		fails(t, s, 0, longer("a@b", "old", tag, 60), api.ErrArg)
		fails(t, s, 0, longer("a@b", "old", tag, 0), api.ErrArg)
		fails(t, s, 0, longer("a@b", "none", tag, 60), api.ErrArg)
		lives(t, s, "a@b", api.Pub{Number: 1, Who: "a@b", Tag: "old", Until: 600, Doc: notes("old")})
	}
	s := store(t, config(200))
	for i, tag := range tokens {
		ask := fresh("a@b", tag, 60)
		ask.Doc = notes("n")
		begins(t, s, 0, ask)
		does(t, s, 0, longer("a@b", tag, name(i), 60), pub.Told{Status: 200, Expires: 60, Tag: name(i)})
	}
	for i, tag := range tokens {
		does(t, s, 0, longer("a@b", name(i), tag, 60), pub.Told{Status: 200, Expires: 60, Tag: tag})
	}
	holds(t, s, len(tokens))
}

// The tag of one that lives is not the next one, whosever it is; of one that lives no more it may be.
func TestP16_2TagsThatLive(t *testing.T) {
	s := store(t, config(9))
	begins(t, s, 0, fresh("a@b", "x", 60))
	begins(t, s, 0, fresh("c@d", "y", 61))
	for _, who := range []string{"a@b", "c@d", "e@f"} {
		for _, tag := range []string{"x", "y"} {
			fails(t, s, 0, fresh(who, tag, 60), api.ErrArg)
			fails(t, s, 0, fresh(who, tag, 1), api.ErrArg)
			fails(t, s, 0, longer(who, "x", tag, 60), api.ErrArg)
			fails(t, s, 0, longer(who, "x", tag, 0), api.ErrArg)
			fails(t, s, 0, longer(who, "y", tag, 0), api.ErrArg)
			fails(t, s, 0, longer(who, "none", tag, 60), api.ErrArg)
		}
	}
	holds(t, s, 2)
	// One that was replaced.
	does(t, s, 0, longer("a@b", "x", "z", 60), pub.Told{Status: 200, Expires: 60, Tag: "z"})
	fails(t, s, 0, fresh("c@d", "z", 60), api.ErrArg)
	begins(t, s, 0, fresh("c@d", "x", 62))
	fails(t, s, 0, fresh("e@f", "x", 60), api.ErrArg)
	// One that was ended.
	does(t, s, 0, longer("c@d", "y", "w", 0), pub.Told{Status: 200, Tag: "w", Changed: true})
	begins(t, s, 0, fresh("e@f", "y", 60))
	// The one that was told as one was ended: it is nobody's.
	begins(t, s, 0, fresh("e@f", "w", 60))
	// One whose time was over.
	expires(t, s, 600, "a@b", "e@f")
	begins(t, s, 600, fresh("e@f", "z", 60))
	fails(t, s, 600, fresh("e@f", "x", 60), api.ErrArg)
	lives(t, s, "c@d", api.Pub{Number: 3, Who: "c@d", Tag: "x", Until: 620, Doc: notes("x")})
}

func TestP16_2Documents(t *testing.T) {
	for _, d := range wrongDocs() {
		s := store(t, config(1))
		fails(t, s, 0, pub.Ask{Who: "a@b", Expires: 60, Has: true, Doc: d, Tag: "x"}, api.ErrArg)
		fails(t, s, 0, pub.Ask{Who: "a@b", Expires: 1, Has: true, Doc: d, Tag: "x"}, api.ErrArg)
		fails(t, s, 0, pub.Ask{Who: "a@b", Expires: 0, Has: true, Doc: d, Tag: "x"}, api.ErrArg)
		fails(t, s, 0, pub.Ask{Who: "a@b", Match: "m", Expires: 60, Has: true, Doc: d, Tag: "x"}, api.ErrArg)
		holds(t, s, 0)
		begins(t, s, 0, fresh("a@b", "x", 60))
		fails(t, s, 9, pub.Ask{Who: "a@b", Match: "x", Expires: 60, Has: true, Doc: d, Tag: "y"}, api.ErrArg)
		fails(t, s, 9, pub.Ask{Who: "a@b", Expires: 60, Has: true, Doc: d, Tag: "y"}, api.ErrArg)
		lives(t, s, "a@b", api.Pub{Number: 1, Who: "a@b", Tag: "x", Until: 600, Doc: notes("x")})
		// Without Has there is no document, whatever stands there.
		does(t, s, 9, pub.Ask{Who: "a@b", Expires: 60, Doc: d, Tag: "y"}, pub.Told{Status: 400})
		does(t, s, 9, pub.Ask{Who: "a@b", Match: "x", Expires: 60, Doc: d, Tag: "y"}, pub.Told{Status: 200, Expires: 60, Tag: "y"})
		lives(t, s, "a@b", api.Pub{Number: 1, Who: "a@b", Tag: "y", Until: 609, Doc: notes("x")})
		does(t, s, 9, pub.Ask{Who: "a@b", Match: "y", Doc: d, Tag: "z"}, pub.Told{Status: 200, Tag: "z", Changed: true})
	}
}

// Of several answers, the first one that the chapter names is given.
func TestP16_2AnswersWithoutMatch(t *testing.T) {
	for _, x := range []struct {
		expires   int
		has, full bool
		want      pub.Told
	}{
		{1, true, false, pub.Told{Status: 423, Expires: 60}},
		{1, true, true, pub.Told{Status: 423, Expires: 60}},
		{1, false, false, pub.Told{Status: 423, Expires: 60}},
		{59, false, true, pub.Told{Status: 423, Expires: 60}},
		{60, false, false, pub.Told{Status: 400}},
		{60, false, true, pub.Told{Status: 400}},
		{-1, false, false, pub.Told{Status: 400}},
		{-1, false, true, pub.Told{Status: 400}},
		{math.MaxInt, false, false, pub.Told{Status: 400}},
		{0, false, false, pub.Told{Status: 400}},
		{0, false, true, pub.Told{Status: 400}},
		{0, true, false, pub.Told{Status: 400}},
		{0, true, true, pub.Told{Status: 400}},
		{60, true, true, pub.Told{Status: 503}},
		{-1, true, true, pub.Told{Status: 503}},
		{math.MaxInt, true, true, pub.Told{Status: 503}},
		{60, true, false, pub.Told{Status: 200, Expires: 60, Tag: "x", Changed: true}},
		{61, true, false, pub.Told{Status: 200, Expires: 61, Tag: "x", Changed: true}},
		{-1, true, false, pub.Told{Status: 200, Expires: 600, Tag: "x", Changed: true}},
		{math.MinInt, true, false, pub.Told{Status: 200, Expires: 600, Tag: "x", Changed: true}},
		{3600, true, false, pub.Told{Status: 200, Expires: 3600, Tag: "x", Changed: true}},
		{3601, true, false, pub.Told{Status: 200, Expires: 3600, Tag: "x", Changed: true}},
		{math.MaxInt, true, false, pub.Told{Status: 200, Expires: 3600, Tag: "x", Changed: true}},
	} {
		s, before := store(t, config(2)), 1
		begins(t, s, 0, fresh("c@d", "c", 3600))
		if x.full {
			begins(t, s, 0, fresh("c@d", "d", 3600))
			before = 2
		}
		does(t, s, 5, pub.Ask{Who: "a@b", Expires: x.expires, Has: x.has, Doc: notes("n"), Tag: "x"}, x.want)
		if x.want.Status == 200 {
			lives(t, s, "a@b", api.Pub{Number: 2, Who: "a@b", Tag: "x", Until: 5 + 10*x.want.Expires, Doc: notes("n")})
			continue
		}
		lives(t, s, "a@b")
		holds(t, s, before)
	}
}

func TestP16_2AnswersWithMatch(t *testing.T) {
	for _, x := range []struct {
		who, match string
		expires    int
		has        bool
		want       pub.Told
	}{
		{"a@b", "none", 60, false, pub.Told{Status: 412}},
		{"a@b", "none", 1, false, pub.Told{Status: 412}},
		{"a@b", "none", 0, true, pub.Told{Status: 412}},
		{"a@b", "none", 0, false, pub.Told{Status: 412}},
		{"a@b", "y", 60, true, pub.Told{Status: 412}},
		{"a@b", "z", 60, true, pub.Told{Status: 412}},
		{"a@b", "X", 60, true, pub.Told{Status: 412}},
		{"a@b", " x", 60, true, pub.Told{Status: 412}},
		{"a@b", "no token", 1, true, pub.Told{Status: 412}},
		{"a@b", strings.Repeat("x", 5000), 60, true, pub.Told{Status: 412}},
		{"A@b", "x", 60, true, pub.Told{Status: 412}},
		{"", "x", 0, false, pub.Told{Status: 412}},
		{"c@d", "x", 0, false, pub.Told{Status: 412}},
		{"c@d", "x", 1, false, pub.Told{Status: 412}},
		{"a@b", "x", 1, false, pub.Told{Status: 423, Expires: 60}},
		{"a@b", "x", 1, true, pub.Told{Status: 423, Expires: 60}},
		{"a@b", "x", 59, true, pub.Told{Status: 423, Expires: 60}},
		{"a@b", "x", 0, true, pub.Told{Status: 400}},
		{"a@b", "x", 0, false, pub.Told{Status: 200, Tag: "z", Changed: true}},
		{"a@b", "x", 60, false, pub.Told{Status: 200, Expires: 60, Tag: "z"}},
		{"a@b", "x", -1, false, pub.Told{Status: 200, Expires: 600, Tag: "z"}},
		{"a@b", "x", math.MaxInt, false, pub.Told{Status: 200, Expires: 3600, Tag: "z"}},
		{"a@b", "x", 60, true, pub.Told{Status: 200, Expires: 60, Tag: "z", Changed: true}},
		{"a@b", "x", -1, true, pub.Told{Status: 200, Expires: 600, Tag: "z", Changed: true}},
		{"a@b", "x", math.MaxInt, true, pub.Told{Status: 200, Expires: 3600, Tag: "z", Changed: true}},
	} {
		// Nothing is said of room where none is needed: both stores do the same, though one is full.
		for _, room := range []int{2, 3} {
			s := store(t, config(room))
			begins(t, s, 0, fresh("a@b", "x", 100))
			begins(t, s, 0, fresh("c@d", "y", 100))
			does(t, s, 5, pub.Ask{Who: x.who, Match: x.match, Expires: x.expires, Has: x.has, Doc: full("n"), Tag: "z"}, x.want)
			lives(t, s, "c@d", api.Pub{Number: 2, Who: "c@d", Tag: "y", Until: 1000, Doc: notes("y")})
			want := api.Pub{Number: 1, Who: "a@b", Tag: "x", Until: 1000, Doc: notes("x")}
			switch {
			case x.want.Status == 200 && x.expires == 0:
				lives(t, s, "a@b")
				continue
			case x.want.Status == 200:
				want.Tag, want.Until = "z", 5+10*x.want.Expires
			}
			if x.want.Changed {
				want.Doc = full("n")
			}
			lives(t, s, "a@b", want)
		}
	}
}

// A document is taken as new even if it is the one that was there.
func TestP16_2SameDocumentIsAChange(t *testing.T) {
	s := store(t, config(1))
	ask := pub.Ask{Who: "a@b", Expires: 60, Has: true, Doc: full("d"), Tag: "x"}
	begins(t, s, 0, ask)
	ask.Match, ask.Tag = "x", "y"
	does(t, s, 0, ask, pub.Told{Status: 200, Expires: 60, Tag: "y", Changed: true})
}

// Whose a publication is, and whose the document says that it is, are held against each other by nobody here.
func TestP16_2AnyWho(t *testing.T) {
	s := store(t, config(200))
	whose := []string{"", "a@b", "bob@home", "no name", "\xff", "\x00", strings.Repeat("x", 5000)}
	for i, who := range whose {
		ask := fresh(who, name(i), 60)
		ask.Doc = full("d")
		begins(t, s, 0, ask)
	}
	for i, who := range whose {
		lives(t, s, who, api.Pub{Number: i + 1, Who: who, Tag: name(i), Until: 600, Doc: full("d")})
	}
}

// A number is never given twice, and what is answered in vain takes none.
func TestP16_2NumbersCountOn(t *testing.T) {
	s := store(t, config(2))
	for i := range 50 {
		begins(t, s, 1000*i, fresh("a@b", "x", 60))
		begins(t, s, 1000*i, fresh("a@b", "y", 60))
		lives(t, s, "a@b",
			api.Pub{Number: 2*i + 1, Who: "a@b", Tag: "x", Until: 1000*i + 600, Doc: notes("x")},
			api.Pub{Number: 2*i + 2, Who: "a@b", Tag: "y", Until: 1000*i + 600, Doc: notes("y")})
		does(t, s, 0, fresh("a@b", "z", 60), pub.Told{Status: 503})
		does(t, s, 0, fresh("a@b", "z", 1), pub.Told{Status: 423, Expires: 60})
		does(t, s, 0, fresh("a@b", "z", 0), pub.Told{Status: 400})
		fails(t, s, 0, fresh("a@b", "x", 60), api.ErrArg)
		fails(t, s, -1, fresh("a@b", "z", 60), api.ErrArg)
		does(t, s, 1000*i, longer("a@b", "x", "z", 60), pub.Told{Status: 200, Expires: 60, Tag: "z"})
		does(t, s, 0, longer("a@b", "z", "x", 0), pub.Told{Status: 200, Tag: "x", Changed: true})
		expires(t, s, 1000*i+600, "a@b")
	}
}

// A new tag counts anew from the tick at which it came, be that earlier or later than before.
func TestP16_2CountedAnew(t *testing.T) {
	s := store(t, config(2))
	begins(t, s, 100, fresh("a@b", name(0), 60))
	begins(t, s, 100, fresh("c@d", "c", 3600))
	until := 700
	for i, x := range []struct{ now, n int }{{699, 60}, {800, 3600}, {5000, 60}, {5001, 61}, {0, 60}, {0, 3600}, {1, 60}} {
		tag := name(i + 1)
		does(t, s, x.now, longer("a@b", name(i), tag, x.n), pub.Told{Status: 200, Expires: x.n, Tag: tag})
		until = x.now + 10*x.n
		lives(t, s, "a@b", api.Pub{Number: 1, Who: "a@b", Tag: tag, Until: until, Doc: notes(name(0))})
	}
	expires(t, s, until-1)
	expires(t, s, until, "a@b")
	lives(t, s, "c@d", api.Pub{Number: 2, Who: "c@d", Tag: "c", Until: 36100, Doc: notes("c")})
}

// Of one that was ended no time is over later on, not even of one that came behind it.
func TestP16_2EndedIsNotOver(t *testing.T) {
	s := store(t, config(1))
	begins(t, s, 0, fresh("a@b", "x", 60))
	does(t, s, 0, longer("a@b", "x", "y", 0), pub.Told{Status: 200, Tag: "y", Changed: true})
	holds(t, s, 0)
	expires(t, s, math.MaxInt)
	begins(t, s, 0, fresh("a@b", "x", 60))
	does(t, s, 0, longer("a@b", "x", "y", 0), pub.Told{Status: 200, Tag: "y", Changed: true})
	begins(t, s, 100, fresh("c@d", "x", 60))
	expires(t, s, 600)
	holds(t, s, 1)
	expires(t, s, 700, "c@d")
}

// seen is all that a store can be asked for without a change.
type seen struct {
	live [][]api.Pub
	size int
}

func see(s *pub.Store, whose ...string) seen {
	x := seen{size: s.Len()}
	for _, who := range whose {
		x.live = append(x.live, s.Live(who))
	}
	return x
}

func (x seen) is(y seen) bool {
	return x.size == y.size && slices.EqualFunc(x.live, y.live, func(a, b []api.Pub) bool { return slices.EqualFunc(a, b, alike) })
}

// What is not answered by 200 changes nothing: not what lives, nor until when, nor the number that comes next.
func TestP16_5NothingElseChanges(t *testing.T) {
	s := store(t, config(2))
	begins(t, s, 0, fresh("a@b", "x", 60))
	begins(t, s, 0, fresh("c@d", "y", 70))
	before := see(s, "a@b", "c@d", "e@f")
	bad := 0
	for _, now := range []int{-1, 0, 300, 5000, lastNow + 1} {
		for _, who := range []string{"a@b", "c@d", "e@f"} {
			for _, match := range []string{"", "x", "y", "z"} {
				for _, n := range []int{-1, 0, 1, 60, 9999} {
					for _, tag := range []string{"x", "y", "z", "", "no token"} {
						for _, d := range []api.Doc{{}, notes("n"), full("f"), {Entity: "a"}} {
							ask := pub.Ask{Who: who, Match: match, Expires: n, Has: d.Entity != "", Doc: d, Tag: tag}
							if mayBeDone(now, ask) {
								continue
							}
							told, err := s.Do(now, ask)
							if told.Status == 200 || err == api.OK && told.Status == 0 || err != api.OK && told != (pub.Told{}) {
								t.Fatalf("Do(%d, %v) = %v, %d", now, ask, told, err)
							}
							if !see(s, "a@b", "c@d", "e@f").is(before) {
								t.Fatalf("Do(%d, %v) = %v, %d changed the store", now, ask, told, err)
							}
							bad++
						}
					}
				}
			}
		}
	}
	if bad < 5000 {
		t.Error(bad)
	}
	expires(t, s, 599)
	expires(t, s, 600, "a@b")
	begins(t, s, 600, fresh("e@f", "x", 60))
	lives(t, s, "e@f", api.Pub{Number: 3, Who: "e@f", Tag: "x", Until: 1200, Doc: notes("x")})
	expires(t, s, 700, "c@d")
}

// mayBeDone tells what that test's store, which is full, would answer by 200.
func mayBeDone(now int, a pub.Ask) bool {
	mine := a.Who == "a@b" && a.Match == "x" || a.Who == "c@d" && a.Match == "y"
	return mine && now >= 0 && now <= lastNow && a.Tag == "z" && a.Doc.Entity != "a" && a.Expires != 1 && (a.Expires != 0 || !a.Has)
}

// A tag that was replaced is nobody's any more, however long ago that was.
func TestP16_5Replaced(t *testing.T) {
	s := store(t, config(1))
	begins(t, s, 0, fresh("a@b", name(0), 60))
	for i := 1; i < 100; i++ {
		ask := longer("a@b", name(i-1), name(i), 60)
		ask.Has, ask.Doc = i%2 == 0, notes(name(i))
		does(t, s, i, ask, pub.Told{Status: 200, Expires: 60, Tag: name(i), Changed: i%2 == 0})
		for _, j := range []int{0, i / 2, i - 1} {
			for _, n := range []int{-1, 0, 1, 60} {
				does(t, s, i, longer("a@b", name(j), "z", n), pub.Told{Status: 412})
				does(t, s, i, pub.Ask{Who: "a@b", Match: name(j), Expires: n, Has: true, Doc: notes("n"), Tag: "z"}, pub.Told{Status: 412})
			}
		}
		last := name(i - i%2)
		lives(t, s, "a@b", api.Pub{Number: 1, Who: "a@b", Tag: name(i), Until: i + 600, Doc: notes(last)})
	}
}

func TestP16_5NeverMore(t *testing.T) {
	for _, most := range []int{1, 2, 199, 200} {
		s := store(t, config(most))
		for i := range 2 * most {
			want := pub.Told{Status: 503}
			if i < most {
				want = pub.Told{Status: 200, Expires: 60, Tag: name(i), Changed: true}
			}
			does(t, s, 0, fresh([]string{"a@b", "c@d"}[i%2], name(i), 60), want)
			holds(t, s, min(i+1, most))
		}
		does(t, s, 0, longer("a@b", name(0), "z", 60), pub.Told{Status: 200, Expires: 60, Tag: "z"})
		does(t, s, 0, fresh("a@b", "y", 60), pub.Told{Status: 503})
		does(t, s, 0, longer("a@b", "z", "y", 0), pub.Told{Status: 200, Tag: "y", Changed: true})
		begins(t, s, 0, fresh("a@b", "y", 60))
		does(t, s, 0, fresh("c@d", "z", 60), pub.Told{Status: 503})
		holds(t, s, most)
	}
}

// apart tells whether no byte of two texts lies in one place.
func apart(a, b string) bool {
	if a == "" || b == "" {
		return true
	}
	x, y := uintptr(unsafe.Pointer(unsafe.StringData(a))), uintptr(unsafe.Pointer(unsafe.StringData(b)))
	return x+uintptr(len(a)) <= y || y+uintptr(len(b)) <= x
}

// wordsOf are all texts of a publication.
func wordsOf(p api.Pub) []string {
	l := append([]string{p.Who, p.Tag, p.Doc.Entity}, p.Doc.Notes...)
	for _, t := range p.Doc.Tuples {
		l = append(l, t.ID, t.Contact, t.Note)
	}
	return l
}

// Nothing that comes out lies where something else does that came out or went in.
func TestRuleMemoryAnswers(t *testing.T) {
	s := store(t, config(2))
	ask := pub.Ask{Who: strings.Repeat("who", 3), Expires: 60, Has: true, Doc: full("memory"), Tag: strings.Repeat("tag", 3)}
	all := [][]string{append(wordsOf(api.Pub{Doc: ask.Doc}), ask.Who, ask.Tag)}
	hear := func(now int, a pub.Ask) {
		told, err := s.Do(now, a)
		if told.Status != 200 || err != api.OK {
			t.Fatal(told, err)
		}
		all = append(all, []string{told.Tag})
	}
	hear(0, ask)
	ask.Match, ask.Tag = ask.Tag, strings.Repeat("gat", 3)
	all = append(all, []string{ask.Tag})
	hear(0, ask)
	other := ask
	other.Match, other.Tag = "", strings.Repeat("oth", 3)
	all = append(all, []string{other.Tag})
	hear(0, other)
	for range 2 {
		for _, p := range s.Live("whowhowho") {
			all = append(all, wordsOf(p))
		}
	}
	end := pub.Ask{Who: ask.Who, Match: other.Tag, Tag: strings.Repeat("end", 3)}
	all = append(all, []string{end.Tag})
	hear(0, end)
	all = append(all, s.Expire(600))
	if len(all) != 1+3+4+4+1 {
		t.Fatal(len(all))
	}
	for i, l := range all {
		for _, m := range all[:i] {
			for _, a := range l {
				for _, b := range m {
					if !apart(a, b) {
						t.Errorf("%q and %q share memory", a, b)
					}
				}
			}
		}
	}
}

// spoil writes over all that a list of publications has, its spare room included.
func spoil(l []api.Pub) {
	l = l[:cap(l)]
	for _, p := range l {
		spoilDoc(p.Doc)
	}
	for i := range l {
		l[i] = api.Pub{Number: -1, Who: "spoilt"}
	}
}

func spoilDoc(d api.Doc) {
	tuples, notes := d.Tuples[:cap(d.Tuples)], d.Notes[:cap(d.Notes)]
	for i := range tuples {
		tuples[i] = api.Tuple{ID: "spoilt"}
	}
	for i := range notes {
		notes[i] = "spoilt"
	}
}

// Who changes what went in or came out changes nothing of what is kept.
func TestRuleMemoryLists(t *testing.T) {
	s := store(t, config(3))
	d := full("first")
	begins(t, s, 0, pub.Ask{Who: "a@b", Expires: 60, Has: true, Doc: d, Tag: "x"})
	spoilDoc(d)
	want := api.Pub{Number: 1, Who: "a@b", Tag: "x", Until: 600, Doc: full("first")}
	lives(t, s, "a@b", want)
	spoil(s.Live("a@b"))
	lives(t, s, "a@b", want)
	l := s.Live("a@b")
	l[0].Doc.Tuples = append(l[0].Doc.Tuples, api.Tuple{ID: "more"})
	l[0].Doc.Notes = append(l[0].Doc.Notes, "more")
	lives(t, s, "a@b", want)
	d = full("second")
	does(t, s, 0, pub.Ask{Who: "a@b", Match: "x", Expires: 60, Has: true, Doc: d, Tag: "y"}, pub.Told{Status: 200, Expires: 60, Tag: "y", Changed: true})
	spoilDoc(d)
	want.Tag, want.Doc = "y", full("second")
	lives(t, s, "a@b", want)
	// What came out earlier stays as it is, too.
	l = s.Live("a@b")
	does(t, s, 9, longer("a@b", "y", "z", 3600), pub.Told{Status: 200, Expires: 3600, Tag: "z"})
	if len(l) != 1 || !alike(l[0], want) {
		t.Errorf("an answer has changed: %v", l)
	}
	// Two publications of one document have each their own.
	d = full("third")
	begins(t, s, 0, pub.Ask{Who: "c@d", Expires: 60, Has: true, Doc: d, Tag: "v"})
	begins(t, s, 0, pub.Ask{Who: "c@d", Expires: 60, Has: true, Doc: d, Tag: "w"})
	l = s.Live("c@d")
	spoilDoc(l[0].Doc)
	if !sameDoc(l[1].Doc, full("third")) {
		t.Errorf("two lists share memory: %v", l)
	}
}

// What is handed in stays as it is, its spare room included.
func TestRuleMemoryGiven(t *testing.T) {
	s := store(t, config(2))
	d := full("given")
	ask := pub.Ask{Who: "a@b", Expires: 60, Has: true, Doc: api.Doc{Entity: d.Entity, Tuples: d.Tuples[:1], Notes: d.Notes[:1]}, Tag: "x"}
	begins(t, s, 0, ask)
	ask.Match, ask.Tag = "x", "y"
	does(t, s, 0, ask, pub.Told{Status: 200, Expires: 60, Tag: "y", Changed: true})
	l := s.Live("a@b")
	l[0].Doc.Tuples = append(l[0].Doc.Tuples, api.Tuple{ID: "more"})
	l[0].Doc.Notes = append(l[0].Doc.Notes, "more")
	if !sameDoc(d, full("given")) {
		t.Errorf("what was handed in has changed: %v", d)
	}
}

// borrowed is a text whose memory is changed behind its back, which no text of the language should see.
func borrowed(s string) (string, func()) {
	b := []byte(s)
	return unsafe.String(&b[0], len(b)), func() {
		for i := range b {
			b[i] = '#'
		}
	}
}

func TestRuleMemoryNothingKept(t *testing.T) {
	var spoils []func()
	text := func(s string) string {
		b, spoil := borrowed(s)
		spoils = append(spoils, spoil)
		return b
	}
	doc := func(mark string) api.Doc {
		d := full(mark)
		d.Entity = text(d.Entity)
		for i, x := range d.Tuples {
			d.Tuples[i].ID = text(x.ID)
		}
		d.Tuples[0].Contact, d.Tuples[0].Note = text(d.Tuples[0].Contact), text(d.Tuples[0].Note)
		for i, x := range d.Notes {
			d.Notes[i] = text(x)
		}
		return d
	}
	c := config(2)
	c.Host = text(c.Host)
	s := store(t, c)
	begins(t, s, 0, pub.Ask{Who: text("a@b"), Expires: 60, Has: true, Doc: doc("1"), Tag: text("tag-one")})
	begins(t, s, 0, pub.Ask{Who: text("a@b"), Expires: 60, Has: true, Doc: doc("2"), Tag: text("tag-two")})
	does(t, s, 0, pub.Ask{Who: text("a@b"), Match: text("tag-one"), Expires: 70, Tag: text("tag-one-b")}, pub.Told{Status: 200, Expires: 70, Tag: "tag-one-b"})
	does(t, s, 0, pub.Ask{Who: text("a@b"), Match: text("tag-two"), Expires: 60, Has: true, Doc: doc("3"), Tag: text("tag-two-b")}, pub.Told{Status: 200, Expires: 60, Tag: "tag-two-b", Changed: true})
	for _, spoil := range spoils {
		spoil()
	}
	lives(t, s, "a@b",
		api.Pub{Number: 1, Who: "a@b", Tag: "tag-one-b", Until: 700, Doc: full("1")},
		api.Pub{Number: 2, Who: "a@b", Tag: "tag-two-b", Until: 600, Doc: full("3")})
	fails(t, s, 0, fresh("a@b", "tag-one-b", 60), api.ErrArg)
	does(t, s, 0, longer("a@b", "tag-one", "z", 60), pub.Told{Status: 412})
	does(t, s, 0, longer("a@b", "tag-one-b", "z", 60), pub.Told{Status: 200, Expires: 60, Tag: "z"})
	expires(t, s, 600, "a@b")
	holds(t, s, 0)
}

// What is done to one store is not done to another.
func TestRuleStoresApart(t *testing.T) {
	a, b := store(t, config(1)), store(t, config(1))
	begins(t, a, 0, fresh("a@b", "x", 60))
	holds(t, b, 0)
	does(t, b, 0, longer("a@b", "x", "y", 60), pub.Told{Status: 412})
	begins(t, b, 0, fresh("c@d", "x", 70))
	lives(t, b, "c@d", api.Pub{Number: 1, Who: "c@d", Tag: "x", Until: 700, Doc: notes("x")})
	expires(t, b, 600)
	holds(t, a, 1)
	expires(t, a, 600, "a@b")
	holds(t, b, 1)
}
