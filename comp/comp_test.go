package comp_test

import (
	"fmt"
	"math"
	"slices"
	"strconv"
	"strings"
	"testing"
	"unsafe"

	"roster/api"
	"roster/comp"
	"roster/pidf"
)

// long is a text of n bytes.
func long(n int) string { return strings.Repeat("x", n) }

// bare is a tuple with an ID, open or closed, alone.
func bare(id string, open bool) api.Tuple { return api.Tuple{ID: id, Open: open, Priority: -1} }

// open and closed are such tuples.
func open(id string) api.Tuple   { return bare(id, true) }
func closed(id string) api.Tuple { return bare(id, false) }

// noted is an open tuple with a note: of one ID there may be many of these.
func noted(id, note string) api.Tuple {
	return api.Tuple{ID: id, Open: true, Priority: -1, Note: note}
}

// counted are the tuples from one number up to the one ahead of another.
func counted(from, to int) []api.Tuple {
	var l []api.Tuple
	for i := from; i < to; i++ {
		l = append(l, open("t"+strconv.Itoa(i)))
	}
	return l
}

// words are the notes from one number up to the one ahead of another.
func words(from, to int) []string {
	var l []string
	for i := from; i < to; i++ {
		l = append(l, "n"+strconv.Itoa(i))
	}
	return l
}

// of is a publication of a@b with these tuples.
func of(number int, l ...api.Tuple) api.Pub {
	return api.Pub{Number: number, Doc: api.Doc{Entity: "a@b", Tuples: l}}
}

// says is a publication of a@b with these notes.
func says(number int, l ...string) api.Pub {
	return api.Pub{Number: number, Doc: api.Doc{Entity: "a@b", Notes: l}}
}

// tuples and notes are documents of a@b.
func tuples(l ...api.Tuple) api.Doc { return api.Doc{Entity: "a@b", Tuples: l} }
func notes(l ...string) api.Doc     { return api.Doc{Entity: "a@b", Notes: l} }

// pubs is a list of publications, so that lists of them are written shortly.
func pubs(l ...api.Pub) []api.Pub { return l }

// alike tells whether two documents are one; nil and empty lists are alike.
func alike(a, b api.Doc) bool {
	return a.Entity == b.Entity && slices.Equal(a.Tuples, b.Tuples) && slices.Equal(a.Notes, b.Notes)
}

// isZero tells whether a document says nothing at all.
func isZero(d api.Doc) bool { return alike(d, api.Doc{}) }

// shown is a list of publications as a test tells it, cut where it grows long.
func shown(l []api.Pub) string {
	s := fmt.Sprint(l)
	return s[:min(len(s), 600)]
}

// composes asks Compose, and what it should answer.
func composes(t *testing.T, who string, l []api.Pub, want api.Doc) {
	t.Helper()
	if got, err := comp.Compose(who, l); err != api.OK || !alike(got, want) {
		t.Errorf("Compose(%q, %s) = %v, %d, not %v", who, shown(l), got, err, want)
	}
}

// fails asks for something of which there is an error.
func fails(t *testing.T, who string, l []api.Pub, want api.Errno) {
	t.Helper()
	if got, err := comp.Compose(who, l); err != want || !isZero(got) {
		t.Errorf("Compose(%.100q, %s) = %v, %d, not %d", who, shown(l), got, err, want)
	}
	if got, err := comp.Text(who, l); err != want || got != "" {
		t.Errorf("Text(%.100q, %s) = %q, %d, not %d", who, shown(l), got, err, want)
	}
}

func TestP17_1Examples(t *testing.T) {
	composes(t, "a@b", pubs(of(1, open("t")), of(2, closed("t"), open("u"))), tuples(open("t"), closed("p2-1"), open("u")))
	composes(t, "a@b", pubs(of(1, open("t")), of(2, open("t"))), tuples(open("t")))
}

func TestP17_1Nothing(t *testing.T) {
	for _, l := range [][]api.Pub{nil, {}, {of(1)}, {of(1), says(2)}, {{Number: 7, Doc: api.Doc{Entity: "a@b", Tuples: []api.Tuple{}, Notes: []string{}}}}} {
		composes(t, "a@b", l, api.Doc{Entity: "a@b"})
	}
}

// TestP17_1Who asks whose the document is: of the one who is named, whatever
// the publications say.
func TestP17_1Who(t *testing.T) {
	for _, who := range []string{"a@b", "c@d", "Bob@example.org", "a%20b@c", "a@[::1]", long(64) + "@" + long(64)} {
		composes(t, who, nil, api.Doc{Entity: who})
		p := of(3, open("t"))
		p.Who, p.Tag, p.Until, p.Doc.Entity = "no name", "no tag", -1, "e@f"
		composes(t, who, pubs(p), api.Doc{Entity: who, Tuples: p.Doc.Tuples})
	}
	composes(t, "a@b", pubs(api.Pub{Number: 1, Who: "c@d", Doc: api.Doc{Entity: "a@b", Notes: []string{"n"}}}, api.Pub{Number: 2, Who: "e@f", Doc: api.Doc{Entity: "g@h", Notes: []string{"m"}}}), notes("n", "m"))
}

func TestP17_1WhoWrong(t *testing.T) {
	for _, who := range []string{"", "a", "b.c", "@b", "a@", "a@B", "A b@c", " a@b", "a@b ", "%61@b", "a@b:5060", "a@b;x", "sip:a@b", "pres:a@b", "a@b@c", "é@b", long(65) + "@b", "a@" + long(65), long(100000)} {
		fails(t, who, nil, 140)
		fails(t, who, pubs(of(1, open("t"))), 140)
		// Ahead of all that is asked of the publications.
		fails(t, who, pubs(of(0, open("t"))), 140)
		fails(t, who, pubs(of(2), of(1)), 140)
		fails(t, who, pubs(api.Pub{}), 140)
	}
}

func TestP17_1Numbers(t *testing.T) {
	for _, l := range [][]int{{1}, {2}, {math.MaxInt}, {1, 2}, {1, 3}, {5, 6, 7}, {1, 1 << 40, math.MaxInt}, {math.MaxInt - 1, math.MaxInt}} {
		var all []api.Pub
		for _, n := range l {
			all = append(all, of(n, open("t")))
		}
		composes(t, "a@b", all, tuples(open("t")))
	}
	for _, l := range [][]int{
		{0}, {-1}, {math.MinInt}, {0, 1}, {-1, 1}, {-2, -1}, {1, 0}, {1, -1}, {1, math.MinInt}, {1, 1}, {2, 1}, {7, 7}, {math.MaxInt, math.MaxInt}, {math.MaxInt, math.MinInt}, {math.MaxInt, 1},
		{1, 3, 2}, {1, 3, 3}, {1, 2, 3, 3}, {1, 2, 0}, {2, 1, 3}, {5, 6, 5, 7}, {1, 2, 3, 4, 5, 6, 7, 8, 9, 10, 10},
	} {
		var with, without []api.Pub
		for _, n := range l {
			with, without = append(with, of(n, open("t"))), append(without, of(n))
		}
		fails(t, "a@b", with, 1)
		fails(t, "a@b", without, 1)
	}
}

// wrongDocs are documents that may not be.
func wrongDocs() []api.Doc {
	return []api.Doc{
		{}, {Entity: "a"}, {Entity: "a@B"}, {Tuples: counted(0, 1)}, {Notes: words(0, 1)},
		tuples(counted(0, 17)...), tuples(open("t"), closed("t")), tuples(open("t"), open("t")), tuples(open("")), tuples(open("a b")), tuples(open("é")), tuples(open(long(65))),
		tuples(api.Tuple{ID: "t"}), tuples(api.Tuple{ID: "t", Priority: 1}), tuples(api.Tuple{ID: "t", Contact: "c", Priority: 1001}), tuples(api.Tuple{ID: "t", Contact: "c", Priority: -2}), tuples(api.Tuple{ID: "t", Contact: long(129), Priority: -1}), tuples(noted("t", long(129))), tuples(noted("t", " n")),
		notes(""), notes("n", ""), notes(words(0, 17)...), notes(slices.Repeat([]string{"n"}, 17)...), notes(long(129)), notes("n\x00"),
	}
}

func TestP17_1DocsWrong(t *testing.T) {
	good := tuples(open("t"))
	for _, d := range wrongDocs() {
		bad := api.Pub{Number: 2, Doc: d}
		fails(t, "a@b", pubs(bad), 140)
		fails(t, "a@b", pubs(api.Pub{Number: 1, Doc: good}, bad), 140)
		fails(t, "a@b", pubs(bad, api.Pub{Number: 3, Doc: good}), 140)
		// What could not be taken any more is looked at, too.
		fails(t, "a@b", pubs(api.Pub{Number: 1, Doc: api.Doc{Entity: "a@b", Tuples: counted(0, 16), Notes: words(0, 16)}}, bad), 140)
	}
}

// TestP17_1FirstError asks for two errors at a time: the first publication
// decides, and of one its number.
func TestP17_1FirstError(t *testing.T) {
	for _, d := range wrongDocs() {
		fails(t, "a@b", pubs(api.Pub{Number: 0, Doc: d}), 1)
		fails(t, "a@b", pubs(api.Pub{Number: -1, Doc: d}, of(1)), 1)
		fails(t, "a@b", pubs(of(0), api.Pub{Number: 1, Doc: d}), 1)
		fails(t, "a@b", pubs(of(1), api.Pub{Number: 1, Doc: d}), 1)
		fails(t, "a@b", pubs(of(2), of(1), api.Pub{Number: 3, Doc: d}), 1)
		fails(t, "a@b", pubs(api.Pub{Number: 1, Doc: d}, of(0)), 140)
		fails(t, "a@b", pubs(api.Pub{Number: 1, Doc: d}, of(1)), 140)
		fails(t, "a@b", pubs(of(1), api.Pub{Number: 2, Doc: d}, of(2)), 140)
	}
}

func TestP17_1Tuples(t *testing.T) {
	full := api.Tuple{ID: "t", Open: true, Contact: "c", Priority: 5, Note: "n"}
	other := full
	other.ID = "u"
	for _, x := range []struct {
		l    []api.Pub
		want []api.Tuple
	}{
		// In order, publication by publication, whatever their IDs are.
		{pubs(of(1, open("b"), open("a")), of(2, open("z"), closed("c"))), []api.Tuple{open("b"), open("a"), open("z"), closed("c")}},
		{pubs(of(1), of(2, open("t")), of(3), of(4, open("u"))), []api.Tuple{open("t"), open("u")}},
		{pubs(of(3, full, open("u"))), []api.Tuple{full, open("u")}},
		// What was there already, also not right ahead, and in another order.
		{pubs(of(1, open("t")), of(2, open("t")), of(3, open("t"))), []api.Tuple{open("t")}},
		{pubs(of(1, open("t"), open("u")), of(2, open("u"), open("t"))), []api.Tuple{open("t"), open("u")}},
		{pubs(of(1, open("t")), of(2, open("u")), of(3, open("t"), open("v"), open("u"))), []api.Tuple{open("t"), open("u"), open("v")}},
		{pubs(of(1, full), of(2, full)), []api.Tuple{full}},
		// One field is another's: so it's another tuple.
		{pubs(of(1, full), of(2, other)), []api.Tuple{full, other}},
		{pubs(of(1, full), of(2, api.Tuple{ID: "t", Contact: "c", Priority: 5, Note: "n"})), []api.Tuple{full, {ID: "p2-1", Contact: "c", Priority: 5, Note: "n"}}},
		{pubs(of(1, full), of(2, api.Tuple{ID: "t", Open: true, Contact: "C", Priority: 5, Note: "n"})), []api.Tuple{full, {ID: "p2-1", Open: true, Contact: "C", Priority: 5, Note: "n"}}},
		{pubs(of(1, full), of(2, api.Tuple{ID: "t", Open: true, Contact: "c", Priority: 6, Note: "n"})), []api.Tuple{full, {ID: "p2-1", Open: true, Contact: "c", Priority: 6, Note: "n"}}},
		{pubs(of(1, full), of(2, api.Tuple{ID: "t", Open: true, Contact: "c", Priority: -1, Note: "n"})), []api.Tuple{full, {ID: "p2-1", Open: true, Contact: "c", Priority: -1, Note: "n"}}},
		{pubs(of(1, full), of(2, api.Tuple{ID: "t", Open: true, Contact: "c", Priority: 5})), []api.Tuple{full, {ID: "p2-1", Open: true, Contact: "c", Priority: 5}}},
		{pubs(of(1, noted("t", "c")), of(2, api.Tuple{ID: "t", Open: true, Contact: "c", Priority: -1})), []api.Tuple{noted("t", "c"), {ID: "p2-1", Open: true, Contact: "c", Priority: -1}}},
	} {
		composes(t, "a@b", x.l, tuples(x.want...))
	}
}

func TestP17_1IDs(t *testing.T) {
	for _, x := range []struct {
		l    []api.Pub
		want []api.Tuple
	}{
		// Letter by letter.
		{pubs(of(1, open("t")), of(2, closed("T"), closed("tt"), closed("t1"))), []api.Tuple{open("t"), closed("T"), closed("tt"), closed("t1")}},
		// The publication's number, in all its digits; then one more each time.
		{pubs(of(1, open("t")), of(10, closed("t"))), []api.Tuple{open("t"), closed("p10-1")}},
		{pubs(of(8, open("t")), of(9007199254740993, closed("t"))), []api.Tuple{open("t"), closed("p9007199254740993-1")}},
		{pubs(of(1, open("t")), of(math.MaxInt, closed("t"))), []api.Tuple{open("t"), closed("p9223372036854775807-1")}},
		{pubs(of(3, open("t")), of(4, closed("t")), of(7, noted("t", "n"))), []api.Tuple{open("t"), closed("p4-1"), noted("p7-1", "n")}},
		{pubs(of(3, open("t"), open("u"), open("v")), of(4, closed("u"), closed("w"), closed("t"), closed("v"))), []api.Tuple{open("t"), open("u"), open("v"), closed("p4-1"), closed("w"), closed("p4-2"), closed("p4-3")}},
		{pubs(of(1, open(long(64))), of(2, closed(long(64)))), []api.Tuple{open(long(64)), closed("p2-1")}},
		// The least number that is free: IDs of this form may be there already.
		{pubs(of(1, open("t"), open("p2-1")), of(2, closed("t"))), []api.Tuple{open("t"), open("p2-1"), closed("p2-2")}},
		{pubs(of(1, open("t"), open("p2-2")), of(2, closed("t"))), []api.Tuple{open("t"), open("p2-2"), closed("p2-1")}},
		{pubs(of(1, open("t"), open("u"), open("p2-2")), of(2, closed("t"), closed("u"))), []api.Tuple{open("t"), open("u"), open("p2-2"), closed("p2-1"), closed("p2-3")}},
		{pubs(of(1, open("t"), open("p2-3"), open("p2-1"), open("p2-2")), of(2, closed("t"))), []api.Tuple{open("t"), open("p2-3"), open("p2-1"), open("p2-2"), closed("p2-4")}},
		{pubs(of(1, open("t"), open("p2-0"), open("p1-1"), open("p2-01"), open("P2-1")), of(2, closed("t"))), []api.Tuple{open("t"), open("p2-0"), open("p1-1"), open("p2-01"), open("P2-1"), closed("p2-1")}},
		// What stands behind in its own publication is not taken yet.
		{pubs(of(1, open("t")), of(2, closed("t"), open("p2-1"))), []api.Tuple{open("t"), closed("p2-1"), open("p2-2")}},
		{pubs(of(1, open("t")), of(2, open("p2-1"), closed("t"))), []api.Tuple{open("t"), open("p2-1"), closed("p2-2")}},
		{pubs(of(1, open("t")), of(2, closed("t")), of(5, open("p2-1"))), []api.Tuple{open("t"), closed("p2-1"), open("p5-1")}},
		{pubs(of(1, open("p1-1")), of(2, closed("p1-1")), of(3, closed("p2-1"))), []api.Tuple{open("p1-1"), closed("p2-1"), closed("p3-1")}},
		{pubs(of(1, open("t")), of(2, closed("t"), open("p2-1"), open("p2-2"), open("u"))), []api.Tuple{open("t"), closed("p2-1"), open("p2-2"), open("p2-3"), open("u")}},
		// Just an ID that was taken counts: a tuple that was there already takes none.
		{pubs(of(1, open("t")), of(2, open("t"), closed("u")), of(3, noted("u", "n"), open("v"))), []api.Tuple{open("t"), closed("u"), noted("p3-1", "n"), open("v")}},
	} {
		composes(t, "a@b", x.l, tuples(x.want...))
	}
}

// TestP17_1AsItStandsThere asks what a tuple is held against: others as they
// were published, not as they were taken.
func TestP17_1AsItStandsThere(t *testing.T) {
	first, second := of(1, open("t")), of(2, closed("t"))
	// Taken as p2-1, and known as t.
	composes(t, "a@b", pubs(first, second, of(3, closed("t"))), tuples(open("t"), closed("p2-1")))
	composes(t, "a@b", pubs(first, second, of(3, closed("p2-1"))), tuples(open("t"), closed("p2-1"), closed("p3-1")))
	composes(t, "a@b", pubs(first, second, of(3, closed("p2-1")), of(4, closed("p2-1"), closed("p3-1"))), tuples(open("t"), closed("p2-1"), closed("p3-1"), closed("p4-1")))
	// One that was there already is known all the same.
	composes(t, "a@b", pubs(first, of(2, open("t")), of(3, closed("t")), of(4, open("t")), of(5, closed("t"))), tuples(open("t"), closed("p3-1")))
}

func TestP17_1MostTuples(t *testing.T) {
	sixteen := counted(0, 16)
	for _, x := range []struct {
		l    []api.Pub
		want []api.Tuple
	}{
		{pubs(of(1, sixteen...)), sixteen},
		{pubs(of(1, sixteen...), of(2, open("u"))), sixteen},
		{pubs(of(1, sixteen...), of(2, closed("t0"))), sixteen},
		{pubs(of(1, sixteen...), of(2, sixteen...), of(3, counted(16, 32)...)), sixteen},
		{pubs(of(1, counted(0, 10)...), of(2, counted(10, 20)...)), sixteen},
		{pubs(of(1, counted(0, 10)...), of(2, counted(5, 21)...)), sixteen},
		{pubs(of(1, counted(0, 15)...), of(2, closed("t0"), closed("t1")), of(3, open("t15"))), append(counted(0, 15), closed("p2-1"))},
		{pubs(of(1, counted(0, 15)...), of(2, counted(0, 15)...), of(3, open("t15"), open("t16"))), sixteen},
		{pubs(of(1, counted(0, 15)...), of(2, open("t0")), of(3), of(4, counted(14, 17)...)), sixteen},
	} {
		composes(t, "a@b", x.l, tuples(x.want...))
	}
	// One a publication, all of one ID: one is t, fifteen are given others.
	var l []api.Pub
	want := []api.Tuple{noted("t", "n1")}
	for n := 1; n <= 300; n++ {
		l = append(l, of(n, noted("t", "n"+strconv.Itoa(n))))
		if n > 1 && n <= 16 {
			want = append(want, noted("p"+strconv.Itoa(n)+"-1", "n"+strconv.Itoa(n)))
		}
	}
	composes(t, "a@b", l, tuples(want...))
	// As many IDs to go by as there can be.
	last := of(16, closed("t"))
	all := []api.Tuple{open("t")}
	for n := 1; n <= 14; n++ {
		all = append(all, open("p16-"+strconv.Itoa(n)))
	}
	composes(t, "a@b", pubs(of(1, all...), last), tuples(append(all, closed("p16-15"))...))
}

func TestP17_1Notes(t *testing.T) {
	for _, x := range []struct {
		l    []api.Pub
		want []string
	}{
		{pubs(says(1, "b", "a"), says(2, "z", "c")), []string{"b", "a", "z", "c"}},
		{pubs(says(1), says(2, "n")), []string{"n"}},
		{pubs(says(1, "n", "n")), []string{"n"}},
		{pubs(says(1, "n", "m", "n", "m", "o")), []string{"n", "m", "o"}},
		{pubs(says(1, "n"), says(2, "n")), []string{"n"}},
		{pubs(says(1, "n", "m"), says(2, "m", "o", "n"), says(3, "n", "p")), []string{"n", "m", "o", "p"}},
		{pubs(says(1, "n"), says(2, "N", "n n", "n  n", "nn")), []string{"n", "N", "n n", "n  n", "nn"}},
		{pubs(says(1, slices.Repeat([]string{"n"}, 16)...), says(2, "m")), []string{"n", "m"}},
		{pubs(says(1, long(128)), says(2, long(127)), says(3, long(128))), []string{long(128), long(127)}},
		// Behind sixteen none.
		{pubs(says(1, words(0, 16)...)), words(0, 16)},
		{pubs(says(1, words(0, 16)...), says(2, "m")), words(0, 16)},
		{pubs(says(1, words(0, 16)...), says(2, words(0, 17)[1:]...), says(3, words(20, 30)...)), words(0, 16)},
		{pubs(says(1, words(0, 10)...), says(2, words(10, 20)...)), words(0, 16)},
		{pubs(says(1, words(0, 10)...), says(2, words(4, 20)...)), words(0, 16)},
		{pubs(says(1, words(0, 15)...), says(2, words(0, 15)...), says(3, "n15", "n16")), words(0, 16)},
	} {
		composes(t, "a@b", x.l, notes(x.want...))
	}
}

// TestP17_1Both asks that tuples and notes have their own room, and that a note
// of a tuple is none of the document.
func TestP17_1Both(t *testing.T) {
	doc := func(l []api.Tuple, n []string) api.Doc { return api.Doc{Entity: "a@b", Tuples: l, Notes: n} }
	composes(t, "a@b", pubs(api.Pub{Number: 1, Doc: doc(counted(0, 16), words(0, 2))}, api.Pub{Number: 2, Doc: doc(counted(16, 20), words(1, 4))}), doc(counted(0, 16), words(0, 4)))
	composes(t, "a@b", pubs(api.Pub{Number: 1, Doc: doc(counted(0, 2), words(0, 16))}, api.Pub{Number: 2, Doc: doc(counted(1, 4), words(15, 20))}), doc(counted(0, 4), words(0, 16)))
	composes(t, "a@b", pubs(of(1, noted("t", "n")), says(2, "n"), of(3, noted("n", "n"))), doc([]api.Tuple{noted("t", "n"), noted("n", "n")}, []string{"n"}))
}

// bytesOf is a text of its own, in memory of its own.
func bytesOf(s string) string { return string([]byte(s)) }

// roomy are publications whose lists have spare room, with something in it.
func roomy() []api.Pub {
	l := make([]api.Pub, 0, 4)
	for n := 1; n <= 3; n++ {
		p := api.Pub{Number: n, Who: "a@b", Tag: "x", Until: n, Doc: api.Doc{Entity: "a@b"}}
		p.Doc.Tuples = make([]api.Tuple, 0, 20)
		p.Doc.Notes = make([]string, 0, 20)
		for i := range 5 {
			p.Doc.Tuples = append(p.Doc.Tuples, api.Tuple{ID: bytesOf("id" + strconv.Itoa(i)), Open: n == 2, Contact: bytesOf("contact" + strconv.Itoa(n*i)), Priority: n, Note: bytesOf("note")})
			p.Doc.Notes = append(p.Doc.Notes, bytesOf("note"+strconv.Itoa(n*i)))
		}
		l = append(l, p)
	}
	spare(l)[0] = says(9, "spare")
	for _, p := range l {
		spare(p.Doc.Tuples)[0], spare(p.Doc.Notes)[0] = open("spare"), "spare"
	}
	return l
}

// spare is the spare room of a list.
func spare[T any](l []T) []T { return l[len(l):cap(l)] }

func samePub(a, b api.Pub) bool {
	return a.Number == b.Number && a.Who == b.Who && a.Tag == b.Tag && a.Until == b.Until && alike(a.Doc, b.Doc)
}

// apart tells whether no byte of two texts lies in one place.
func apart(a, b string) bool {
	if a == "" || b == "" {
		return true
	}
	x, y := uintptr(unsafe.Pointer(unsafe.StringData(a))), uintptr(unsafe.Pointer(unsafe.StringData(b)))
	return x+uintptr(len(a)) <= y || y+uintptr(len(b)) <= x
}

// wordsOf are all texts of a document.
func wordsOf(d api.Doc) []string {
	l := append([]string{d.Entity}, d.Notes...)
	for _, t := range d.Tuples {
		l = append(l, t.ID, t.Contact, t.Note)
	}
	return l
}

// eachApart tells whether no text of one list shares memory with one of another.
func eachApart(a, b []string) bool {
	for _, s := range a {
		for _, c := range b {
			if !apart(s, c) {
				return false
			}
		}
	}
	return true
}

func TestP17_1Memory(t *testing.T) {
	l, who := roomy(), bytesOf("a@b")
	first, err := comp.Compose(who, l)
	if err != api.OK || len(first.Tuples) != 15 || len(first.Notes) != 9 {
		t.Fatalf("%v, %d", first, err)
	}
	kept := api.Doc{Entity: first.Entity, Tuples: slices.Clone(first.Tuples), Notes: slices.Clone(first.Notes)}
	second, _ := comp.Compose(who, l)
	for i, p := range roomy() {
		if !samePub(l[i], p) || spare(l[i].Doc.Tuples)[0] != open("spare") || spare(l[i].Doc.Notes)[0] != "spare" {
			t.Errorf("changed: %v", l[i])
		}
		if !eachApart(wordsOf(first), append(wordsOf(l[i].Doc), who)) {
			t.Errorf("texts are shared with %v", l[i])
		}
	}
	if !samePub(spare(l)[0], says(9, "spare")) {
		t.Errorf("changed behind the list: %v", spare(l)[0])
	}
	if !eachApart(wordsOf(first), wordsOf(second)) {
		t.Error("two answers share texts")
	}
	// Whoever writes into an answer, or an argument, changes no other answer.
	for i := range second.Tuples {
		second.Tuples[i] = open("changed")
	}
	for i := range second.Notes {
		second.Notes[i] = "changed"
	}
	for _, p := range l {
		clear(p.Doc.Tuples)
		clear(p.Doc.Notes)
	}
	if !alike(first, kept) {
		t.Errorf("the answer became %v", first)
	}
}

// TestP17_1Again asks for one thing many times: nothing is kept from call to call.
func TestP17_1Again(t *testing.T) {
	l := pubs(of(1, open("t"), open("p2-2")), of(2, closed("t"), closed("p2-2"), closed("u")), says(3, "n", "n"))
	want := api.Doc{Entity: "a@b", Tuples: []api.Tuple{open("t"), open("p2-2"), closed("p2-1"), closed("p2-3"), closed("u")}, Notes: []string{"n"}}
	for range 50 {
		composes(t, "a@b", l, want)
		fails(t, "a@b", pubs(l[1], l[0]), 1)
	}
}

// head is what a printed document begins with.
const head = "<?xml version=\"1.0\" encoding=\"UTF-8\"?>\n<presence xmlns=\"urn:ietf:params:xml:ns:pidf\" entity=\"pres:"

func TestP17_2Text(t *testing.T) {
	for _, x := range []struct {
		who  string
		l    []api.Pub
		want string
	}{
		{"a@b", nil, head + `a@b"/>`},
		{"c@d", pubs(of(1), says(2)), head + `c@d"/>`},
		{"a@b", pubs(of(1, open("t"))), head + `a@b"><tuple id="t"><status><basic>open</basic></status></tuple></presence>`},
		{"a@b", pubs(of(1, open("t")), of(2, closed("t"))), head + `a@b"><tuple id="t"><status><basic>open</basic></status></tuple><tuple id="p2-1"><status><basic>closed</basic></status></tuple></presence>`},
		{"a@b", pubs(says(1, "n", "a&b"), says(2, "n")), head + `a@b"><note>n</note><note>a&amp;b</note></presence>`},
		{"a@b", pubs(says(1, "n"), of(2, api.Tuple{ID: "t", Contact: "sip:c", Priority: 500, Note: "m"})), head + `a@b"><tuple id="t"><status><basic>closed</basic></status><contact priority="0.5">sip:c</contact><note>m</note></tuple><note>n</note></presence>`},
	} {
		if got, err := comp.Text(x.who, x.l); got != x.want || err != api.OK {
			t.Errorf("Text(%q, %v) = %q, %d", x.who, x.l, got, err)
		}
	}
}

// TestP17_2Fullest asks for the longest text there is: it has no bound of its own.
func TestP17_2Fullest(t *testing.T) {
	var l []api.Pub
	for n := 1; n <= 20; n++ {
		note := strconv.Itoa(100+n) + long(125)
		l = append(l, api.Pub{Number: n, Doc: api.Doc{Entity: "a@b", Tuples: []api.Tuple{{ID: long(64), Contact: note, Priority: 999, Note: note}}, Notes: []string{note}}})
	}
	d, err := comp.Compose("a@b", l)
	if err != api.OK || len(d.Tuples) != 16 || len(d.Notes) != 16 || pidf.Check(d) != api.OK {
		t.Fatalf("%v, %d", d, err)
	}
	want, _ := pidf.Print(d)
	if got, err := comp.Text("a@b", l); got != want || err != api.OK || len(got) < 6000 {
		t.Errorf("%d bytes, %d", len(got), err)
	}
}

func TestP17_2Memory(t *testing.T) {
	l := roomy()
	first, err := comp.Text("a@b", l)
	if err != api.OK || first == "" {
		t.Fatal(err)
	}
	for i, p := range roomy() {
		if !samePub(l[i], p) || spare(l[i].Doc.Tuples)[0] != open("spare") || spare(l[i].Doc.Notes)[0] != "spare" {
			t.Errorf("changed: %v", l[i])
		}
	}
	if second, _ := comp.Text("a@b", l); second != first || !apart(first, second) {
		t.Error("two answers share memory, or are not one text")
	}
}
