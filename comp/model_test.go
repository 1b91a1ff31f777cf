package comp_test

import (
	"slices"
	"strconv"
	"strings"
	"testing"

	"roster/api"
	"roster/comp"
	"roster/pidf"
)

// entry is a tuple with the number of the publication that it is of.
type entry struct {
	number int
	tuple  api.Tuple
}

// without are the items of a list but those that are the same as one ahead.
func without[T any](l []T, same func(a, b T) bool) []T {
	var left []T
	for i, x := range l {
		if !slices.ContainsFunc(l[:i], func(y T) bool { return same(x, y) }) {
			left = append(left, x)
		}
	}
	return left
}

// upTo are the first items of a list, sixteen at most.
func upTo[T any](l []T) []T { return l[:min(len(l), 16)] }

// model puts publications together list by list: all, without those that come
// again, the first sixteen, and then their IDs. The document of who may be.
func model(who string, l []api.Pub) (api.Doc, api.Errno) {
	for i, p := range l {
		if p.Number < 1 || i > 0 && p.Number <= l[i-1].Number {
			return api.Doc{}, 1
		}
		if pidf.Check(p.Doc) != api.OK {
			return api.Doc{}, 140
		}
	}
	var all []entry
	var said []string
	for _, p := range l {
		for _, t := range p.Doc.Tuples {
			all = append(all, entry{p.Number, t})
		}
		said = append(said, p.Doc.Notes...)
	}
	taken := upTo(without(all, func(a, b entry) bool { return a.tuple == b.tuple }))
	ids := map[string]int{}
	d := api.Doc{Entity: who, Notes: upTo(without(said, func(a, b string) bool { return a == b }))}
	for _, e := range taken {
		e.tuple.ID = named(ids, e)
		ids[e.tuple.ID]++
		d.Tuples = append(d.Tuples, e.tuple)
	}
	return d, 0
}

// named tells an ID that is free. No more than sixteen may be taken.
func named(ids map[string]int, e entry) string {
	names := []string{e.tuple.ID}
	for n := 1; n <= 16; n++ {
		names = append(names, "p"+strconv.Itoa(e.number)+"-"+strconv.Itoa(n))
	}
	return names[slices.IndexFunc(names, func(s string) bool { return ids[s] == 0 })]
}

// compare holds both against each other, and what follows of an answer.
func compare(t *testing.T, who string, l []api.Pub) bool {
	t.Helper()
	want, wanted := model(who, l)
	got, err := comp.Compose(who, l)
	if err != wanted || !alike(got, want) {
		t.Fatalf("Compose(%q, %v) = %v, %d, not %v, %d", who, l, got, err, want, wanted)
	}
	text, fault := comp.Text(who, l)
	if err != api.OK {
		if text != "" || fault != err {
			t.Fatalf("Text(%q, %v) = %q, %d, not %d", who, l, text, fault, err)
		}
		return false
	}
	mayBePrinted(t, got, text, fault)
	addsBehind(t, who, l, got)
	wasPublished(t, l, got)
	return true
}

// mayBePrinted holds a document against its text; it is read again, if it is
// not too long.
func mayBePrinted(t *testing.T, d api.Doc, text string, fault api.Errno) {
	t.Helper()
	if err := pidf.Check(d); err != api.OK {
		t.Fatalf("Check(%v) = %d", d, err)
	}
	if page, err := pidf.Print(d); err != api.OK || fault != api.OK || text != page {
		t.Fatalf("%v is printed as %q, %d, and told as %q, %d", d, page, err, text, fault)
	}
	if len(text) > 4096 {
		return
	}
	if again, err := pidf.Parse(text); err != api.OK || !alike(again, d) {
		t.Fatalf("%q is read as %v, %d", text, again, err)
	}
}

// addsBehind asks for fewer publications: they have the beginning of it all.
func addsBehind(t *testing.T, who string, l []api.Pub, d api.Doc) {
	t.Helper()
	for n := range l {
		part, err := comp.Compose(who, l[:n])
		if err != api.OK || len(part.Tuples) > len(d.Tuples) || len(part.Notes) > len(d.Notes) {
			t.Fatalf("Compose(%q, %v) = %v, %d, of %d more %v", who, l[:n], part, err, len(l)-n, d)
		}
		if !slices.Equal(part.Tuples, d.Tuples[:len(part.Tuples)]) || !slices.Equal(part.Notes, d.Notes[:len(part.Notes)]) {
			t.Fatalf("Compose(%q, %v) = %v, of %d more %v", who, l[:n], part, len(l)-n, d)
		}
	}
}

// wasPublished asks for each tuple and each note where it comes from.
func wasPublished(t *testing.T, l []api.Pub, d api.Doc) {
	t.Helper()
	for _, x := range d.Tuples {
		if !slices.ContainsFunc(l, func(p api.Pub) bool {
			return slices.ContainsFunc(p.Doc.Tuples, func(y api.Tuple) bool {
				given := strings.HasPrefix(x.ID, "p"+strconv.Itoa(p.Number)+"-")
				own := y.ID
				y.ID = x.ID
				return x == y && (own == x.ID || given)
			})
		}) {
			t.Fatalf("%v is not of %v", x, l)
		}
	}
	for _, s := range d.Notes {
		if !slices.ContainsFunc(l, func(p api.Pub) bool { return slices.Contains(p.Doc.Notes, s) }) {
			t.Fatalf("%q is not of %v", s, l)
		}
	}
}

// small are few documents, whose IDs, tuples and notes come again.
func small() []api.Doc {
	both := tuples(closed("t"), open("p2-1"))
	both.Notes = []string{"m", "n"}
	return []api.Doc{
		tuples(), tuples(open("t")), tuples(closed("t")), tuples(open("t"), open("u")), tuples(closed("u"), closed("t")), both,
		tuples(open("p2-1"), closed("t")), tuples(closed("p3-1"), noted("t", "n"), noted("p2-1", "n")), notes("n"), notes("n", "m", "n"), tuples(noted("p3-1", "m"), closed("p2-1"), closed("p2-2")),
	}
}

func TestP17_3AllShortLists(t *testing.T) {
	docs := small()
	for length := 0; length <= 4; length++ {
		count := 1
		for range length {
			count *= len(docs)
		}
		for list := range count {
			var l []api.Pub
			for n, i := list, 1; i <= length; i++ {
				l = append(l, api.Pub{Number: i, Doc: docs[n%len(docs)]})
				n /= len(docs)
			}
			if !compare(t, "a@b", l) {
				t.Fatalf("%v has an error", l)
			}
		}
	}
}

// TestP17_3OfOne asks for a publication alone: it comes as it is, but for its
// notes, which come once each.
func TestP17_3OfOne(t *testing.T) {
	full := api.Doc{Entity: "c@d", Tuples: counted(0, 16), Notes: words(0, 16)}
	for _, d := range append(small(), full, notes("n", "n", "m", "n"), tuples(api.Tuple{ID: "p7-1", Contact: "c", Priority: 0, Note: "n"}, open("p1-1"), closed("p7-2"))) {
		want := d
		want.Entity, want.Notes = "a@b", without(d.Notes, func(a, b string) bool { return a == b })
		composes(t, "a@b", pubs(api.Pub{Number: 7, Doc: d}), want)
		compare(t, "a@b", pubs(api.Pub{Number: 7, Doc: d}))
	}
}

// draws are numbers that look chosen by chance but are the same each time.
type draws uint64

func (d *draws) below(n int) int {
	*d = *d*6364136223846793005 + 1442695040888963407
	return int(uint64(*d)>>33) % n
}

// pick picks one of a list.
func pick[T any](d *draws, l ...T) T { return l[d.below(len(l))] }

// id picks an ID: own ones, and such as Compose gives.
func (d *draws) id(kinds int) string {
	if d.below(2) == 0 {
		return "t" + strconv.Itoa(d.below(kinds))
	}
	return "p" + strconv.Itoa(1+d.below(kinds)) + "-" + strconv.Itoa(1+d.below(3))
}

// tuple picks a tuple that may be.
func (d *draws) tuple(kinds int) api.Tuple {
	t := api.Tuple{ID: d.id(kinds), Open: d.below(2) == 0, Priority: -1, Note: pick(d, "", "", "n")}
	if d.below(3) == 0 {
		t.Contact, t.Priority = pick(d, "c", "sip:c@d"), pick(d, -1, 0, 500)
	}
	return t
}

// doc picks a document, that mostly may be.
func (d *draws) doc(kinds int) api.Doc {
	doc := api.Doc{Entity: pick(d, "a@b", "c@d")}
	for range d.below(kinds) {
		t := d.tuple(kinds)
		if !slices.ContainsFunc(doc.Tuples, func(x api.Tuple) bool { return x.ID == t.ID }) || d.below(100) == 0 {
			doc.Tuples = append(doc.Tuples, t)
		}
	}
	for range d.below(kinds) {
		doc.Notes = append(doc.Notes, "n"+strconv.Itoa(d.below(2*kinds)))
	}
	if d.below(150) == 0 {
		return pick(d, wrongDocs()...)
	}
	return doc
}

func TestP17_3MixedLists(t *testing.T) {
	for _, kinds := range []int{2, 4, 8, 16} {
		d := draws(kinds)
		good, full := 0, 0
		for range 3000 {
			var l []api.Pub
			number := 0
			for range d.below(9) {
				number += pick(&d, 1, 1, 2, 7)
				if d.below(150) == 0 {
					number -= 3
				}
				l = append(l, api.Pub{Number: number, Doc: d.doc(kinds)})
			}
			if compare(t, "a@b", l) {
				good++
			}
			if doc, _ := comp.Compose("a@b", l); len(doc.Tuples) == 16 && len(doc.Notes) == 16 {
				full++
			}
		}
		if good < 1500 || good > 2990 || kinds == 16 && full < 300 {
			t.Errorf("of kinds %d: %d good, %d full", kinds, good, full)
		}
	}
}
