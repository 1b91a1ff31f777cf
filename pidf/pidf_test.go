package pidf_test

import (
	"math"
	"slices"
	"strings"
	"testing"
	"unsafe"

	"roster/api"
	"roster/pidf"
	"roster/scan"
)

// long is a text of n bytes.
func long(n int) string { return strings.Repeat("x", n) }

// one is a text of one byte.
func one(i int) string { return string([]byte{byte(i)}) }

// isBlank tells whether a byte is a blank of XML.
func isBlank(i int) bool { return i == 32 || i == 9 || i == 13 || i == 10 }

// isSign tells whether a byte is a sign that may be in XML.
func isSign(i int) bool { return i >= 32 && i != 127 || isBlank(i) }

// of is a document of a@b with these tuples.
func of(l ...api.Tuple) api.Doc { return api.Doc{Entity: "a@b", Tuples: l} }

// says is a document of a@b with these notes.
func says(l ...string) api.Doc { return api.Doc{Entity: "a@b", Notes: l} }

// bare is an open tuple with an ID alone.
func bare(id string) api.Tuple { return api.Tuple{ID: id, Open: true, Priority: -1} }

// at is an open tuple t with a contact and its priority.
func at(contact string, priority int) api.Tuple {
	return api.Tuple{ID: "t", Open: true, Contact: contact, Priority: priority}
}

// noted is a closed tuple t with a note.
func noted(note string) api.Tuple { return api.Tuple{ID: "t", Note: note, Priority: -1} }

// counted are n tuples that may stand together.
func counted(n int) []api.Tuple {
	var l []api.Tuple
	for i := range n {
		l = append(l, api.Tuple{ID: "t" + scan.Digits(i), Open: i%2 == 0, Priority: -1})
	}
	return l
}

// fullest is a document with as many elements as one can have.
func fullest() api.Doc {
	d := api.Doc{Entity: "a@b", Tuples: counted(16), Notes: slices.Repeat([]string{"n"}, 16)}
	for i := range d.Tuples {
		d.Tuples[i].Contact, d.Tuples[i].Priority, d.Tuples[i].Note = "c", i, "m"
	}
	return d
}

// alike tells whether two documents are one; nil and empty lists are alike.
func alike(a, b api.Doc) bool {
	return a.Entity == b.Entity && slices.Equal(a.Tuples, b.Tuples) && slices.Equal(a.Notes, b.Notes)
}

// isZero tells whether a document says nothing at all.
func isZero(d api.Doc) bool { return alike(d, api.Doc{}) }

// copied is a copy of a document, sharing no list with it.
func copied(d api.Doc) api.Doc {
	d.Tuples, d.Notes = slices.Clone(d.Tuples), slices.Clone(d.Notes)
	return d
}

// apart tells whether no byte of two texts lies in one place.
func apart(a, b string) bool {
	if a == "" || b == "" {
		return true
	}
	x, y := uintptr(unsafe.Pointer(unsafe.StringData(a))), uintptr(unsafe.Pointer(unsafe.StringData(b)))
	return x+uintptr(len(a)) <= y || y+uintptr(len(b)) <= x
}

// wordsOf are all texts of a document.
func wordsOf(d api.Doc) []string {
	l := append([]string{d.Entity}, d.Notes...)
	for _, t := range d.Tuples {
		l = append(l, t.ID, t.Contact, t.Note)
	}
	return l
}

// right are documents that may be.
func right() []api.Doc {
	l := []api.Doc{
		of(), of(counted(1)...), of(counted(2)...), of(counted(16)...), fullest(),
		{Entity: "a@b", Tuples: []api.Tuple{}, Notes: []string{}},
		// Whose it is.
		{Entity: "Bob@example.org"}, {Entity: "a%20b@c"}, {Entity: "a@[::1]"}, {Entity: "a;b=c?d&e+$,/@h"}, {Entity: "a'(b)!*~@h"}, {Entity: "%22%3C%3E%FF%00@h"},
		{Entity: long(64) + "@" + long(64)}, {Entity: strings.Repeat("%C3", 64) + "@" + long(64)},
		// IDs.
		of(bare("t")), of(bare("!")), of(bare("~")), of(bare("1")), of(bare("<&>\"'")), of(bare(long(64))), of(bare("a"), bare("A"), bare("aa")), of(bare(strings.Repeat("~", 64))),
		// Contacts and their priorities.
		of(at("sip:a@b", -1)), of(at("sip:a@b", 0)), of(at("sip:a@b", 1)), of(at("sip:a@b", 999)), of(at("sip:a@b", 1000)), of(at("x", 500)), of(at(long(128), 1)),
		of(at(strings.Repeat("é", 64), -1)), of(at("a \t\r\n b", 7)), of(at("\x80\xff", -1)), of(at("<&>\"'", 0)), of(at("no URI", 0)), of(at("", -1)),
		// Notes.
		of(noted("")), of(noted("n")), of(noted(long(128))), of(noted("a \r\n b")), of(noted("é\xff<")), of(noted(strings.Repeat("é", 64))),
		says("n"), says("n", "n"), says(long(128)), says("a \t\r\n b", "é\xff", "<&>\"'"), says(strings.Repeat("é", 64)), says(slices.Repeat([]string{"n"}, 16)...),
	}
	for i := 33; i <= 126; i++ {
		l = append(l, of(bare(one(i))), of(bare("t"+one(i))))
	}
	for i := range 256 {
		if isSign(i) {
			s := "x" + one(i) + "y"
			l = append(l, says(s), of(noted(s)), of(at(s, 0)))
		}
		if isSign(i) && !isBlank(i) {
			s := one(i)
			l = append(l, says(s), of(noted(s)), of(at(s, 0)))
		}
	}
	return l
}

// wrong are documents that may not be.
func wrong() []api.Doc {
	l := []api.Doc{
		{}, of(counted(17)...), of(append(counted(16), bare("t0"))...), of(api.Tuple{}), of(api.Tuple{ID: "t"}),
		// Whose it is.
		{Entity: "a"}, {Entity: "b.c"}, {Entity: "@b"}, {Entity: "a@"}, {Entity: "a@B"}, {Entity: "sip:a@b"}, {Entity: "pres:a@b"}, {Entity: "a@b:5060"}, {Entity: "a@b;x"}, {Entity: "a@b?x=1"},
		{Entity: " a@b"}, {Entity: "a@b "}, {Entity: "a b@c"}, {Entity: "%61@b"}, {Entity: "a%2a@b"}, {Entity: "a%@b"}, {Entity: "a@b@c"}, {Entity: "é@b"}, {Entity: "a@-"}, {Entity: long(65) + "@b"}, {Entity: "a@" + long(65)},
		{Entity: "a", Tuples: counted(1), Notes: []string{"n"}},
		// IDs.
		of(bare("")), of(bare(" ")), of(bare("a b")), of(bare("t ")), of(bare(" t")), of(bare("é")), of(bare("t\xff")), of(bare("\xff")), of(bare("\ufffd")), of(bare("t\u0100")), of(bare("\u0141")), of(bare("日本")), of(bare(long(65))), of(bare(long(5000))),
		of(bare("t"), bare("t")), of(bare("t"), bare("u"), bare("t")), of(bare("t"), bare("u"), bare("u")), of(bare("t"), noted("other")), of(at("x", 1), at("y", 2)),
		of(bare("t"), bare("")), of(bare("t"), bare("u"), bare("v w")),
		// Contacts and their priorities.
		of(at("sip:a@b", -2)), of(at("sip:a@b", 1001)), of(at("sip:a@b", math.MinInt)), of(at("sip:a@b", math.MaxInt)), of(at("", 0)), of(at("", 1)), of(at("", 1000)), of(at("", -2)), of(at("", 1001)),
		of(at(long(129), -1)), of(at(strings.Repeat("é", 65), -1)), of(at(strings.Repeat("é", 64)+"x", -1)), of(at(long(100000), 1)),
		of(bare("u"), at("x", 1001)),
		// Notes.
		of(noted(long(129))), of(noted(strings.Repeat("é", 65))), of(bare("u"), noted(" n")),
		says(""), says("n", ""), says("", "n"), says(long(129)), says("n", long(129)), says(strings.Repeat("é", 65)), says(slices.Repeat([]string{"n"}, 17)...), says(slices.Repeat([]string{""}, 17)...),
		{Entity: "a@b", Tuples: counted(16), Notes: slices.Repeat([]string{"n"}, 17)},
		{Entity: "a@b", Tuples: counted(17), Notes: slices.Repeat([]string{"n"}, 16)},
	}
	for i := range 256 {
		if i < 33 || i > 126 {
			l = append(l, of(bare(one(i))), of(bare("t"+one(i))), of(bare(one(i)+"t")))
		}
		if !isSign(i) {
			s := "x" + one(i) + "y"
			l = append(l, says(s), of(noted(s)), of(at(s, 0)))
		}
		if !isSign(i) || isBlank(i) {
			for _, s := range []string{one(i), one(i) + "x", "x" + one(i)} {
				l = append(l, says(s), says("n", s), of(noted(s)), of(at(s, 0)), of(at(s, -1)))
			}
		}
	}
	return l
}

func TestP14_1Check(t *testing.T) {
	for _, d := range right() {
		if err := pidf.Check(d); err != api.OK {
			t.Errorf("Check(%.300v) = %d", d, err)
		}
	}
}

func TestP14_1CheckWrong(t *testing.T) {
	for _, d := range wrong() {
		if err := pidf.Check(d); err != api.ErrPidf {
			t.Errorf("Check(%.300v) = %d", d, err)
		}
	}
}

// TestP14_1CheckPlaces asks for a fault in each place of the lists.
func TestP14_1CheckPlaces(t *testing.T) {
	for i := range 16 {
		d := fullest()
		d.Tuples[i].ID += " "
		e := fullest()
		e.Notes[i] += "\n"
		f := fullest()
		f.Tuples[i].ID = f.Tuples[(i+7)%16].ID
		for _, x := range []api.Doc{d, e, f} {
			if err := pidf.Check(x); err != api.ErrPidf {
				t.Errorf("a fault at %d: %d", i, err)
			}
		}
	}
}

func TestP14_1Type(t *testing.T) {
	if pidf.Type != "application/pidf+xml" {
		t.Error(pidf.Type)
	}
}

func TestRuleMemoryGiven(t *testing.T) {
	d := fullest()
	room := api.Doc{Entity: d.Entity, Tuples: d.Tuples[:3], Notes: d.Notes[:2]}
	want := copied(d)
	pidf.Check(room)
	pidf.Print(room)
	if !alike(d, want) {
		t.Errorf("what was handed in has changed: %v", d)
	}
}
