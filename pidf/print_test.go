package pidf_test

import (
	"math/rand/v2"
	"strings"
	"testing"

	"roster/api"
	"roster/pidf"
	"roster/scan"
)

// first is what stands ahead of what is printed.
const first = "<?xml version=\"1.0\" encoding=\"UTF-8\"?>\n"

// begin begins a document of a@b that has something in it.
const begin = first + `<presence xmlns="urn:ietf:params:xml:ns:pidf" entity="pres:a@b">`

func TestP14_3Print(t *testing.T) {
	for _, x := range []struct {
		d    api.Doc
		want string
	}{
		{of(), first + `<presence xmlns="urn:ietf:params:xml:ns:pidf" entity="pres:a@b"/>`},
		{api.Doc{Entity: "a&b%20@[::1]"}, first + `<presence xmlns="urn:ietf:params:xml:ns:pidf" entity="pres:a&amp;b%20@[::1]"/>`},
		{of(bare("t")), begin + `<tuple id="t"><status><basic>open</basic></status></tuple></presence>`},
		{of(noted("")), begin + `<tuple id="t"><status><basic>closed</basic></status></tuple></presence>`},
		{of(noted("n")), begin + `<tuple id="t"><status><basic>closed</basic></status><note>n</note></tuple></presence>`},
		{of(bare(`<"&>'`)), begin + `<tuple id="&lt;&quot;&amp;&gt;'"><status><basic>open</basic></status></tuple></presence>`},
		{of(at("sip:c", -1)), begin + `<tuple id="t"><status><basic>open</basic></status><contact>sip:c</contact></tuple></presence>`},
		{of(at("sip:c", 0)), begin + `<tuple id="t"><status><basic>open</basic></status><contact priority="0">sip:c</contact></tuple></presence>`},
		{of(at("sip:c", 1)), begin + `<tuple id="t"><status><basic>open</basic></status><contact priority="0.001">sip:c</contact></tuple></presence>`},
		{of(at("<x>", 500)), begin + `<tuple id="t"><status><basic>open</basic></status><contact priority="0.5">&lt;x&gt;</contact></tuple></presence>`},
		{of(at("sip:c", 1000)), begin + `<tuple id="t"><status><basic>open</basic></status><contact priority="1">sip:c</contact></tuple></presence>`},
		{says("n"), begin + `<note>n</note></presence>`},
		{says("m", "n", "m", "a \r\n b", `"é"`), begin + "<note>m</note><note>n</note><note>m</note><note>a \r\n b</note><note>&quot;é&quot;</note></presence>"},
		{api.Doc{Entity: "a@b", Tuples: []api.Tuple{{ID: "u", Contact: "c", Priority: 120, Note: "n"}, bare("t")}, Notes: []string{"m", "l"}},
			begin + `<tuple id="u"><status><basic>closed</basic></status><contact priority="0.12">c</contact><note>n</note></tuple>` +
				`<tuple id="t"><status><basic>open</basic></status></tuple><note>m</note><note>l</note></presence>`},
	} {
		if got, err := pidf.Print(x.d); got != x.want || err != api.OK {
			t.Errorf("Print(%v) = %q, %d", x.d, got, err)
		}
	}
}

// TestP14_3PrintMost asks for as many elements as there can be.
func TestP14_3PrintMost(t *testing.T) {
	want := begin
	for i := range 16 {
		word := "open"
		if i%2 > 0 {
			word = "closed"
		}
		want += `<tuple id="t` + scan.Digits(i) + `"><status><basic>` + word + `</basic></status><contact priority="` + pidf.Decimal(i) + `">c</contact><note>m</note></tuple>`
	}
	want += strings.Repeat("<note>n</note>", 16) + "</presence>"
	if got, err := pidf.Print(fullest()); got != want || err != api.OK {
		t.Errorf("of the fullest one: %q, %d", got, err)
	}
}

func TestP14_3PrintRight(t *testing.T) {
	for _, d := range right() {
		if got, err := pidf.Print(d); !strings.HasPrefix(got, first+`<presence xmlns="urn:ietf:params:xml:ns:pidf" entity="pres:`) || err != api.OK {
			t.Errorf("Print(%.300v) = %q, %d", d, got, err)
		}
	}
}

func TestP14_3PrintWrong(t *testing.T) {
	for _, d := range wrong() {
		if got, err := pidf.Print(d); got != "" || err != api.ErrPidf {
			t.Errorf("Print(%.300v) = %.300q, %d", d, got, err)
		}
	}
}

// backAgain asks whether a document is parsed as it was printed of, and tells
// whether it was short enough.
func backAgain(t *testing.T, d api.Doc) bool {
	t.Helper()
	s, err := pidf.Print(d)
	if err != api.OK {
		t.Fatalf("Print(%v) = %d", d, err)
	}
	got, err := pidf.Parse(s)
	if len(s) > api.MaxBytes {
		if err != api.ErrLong || !isZero(got) {
			t.Fatalf("%d bytes are parsed: %d", len(s), err)
		}
		return false
	}
	if err != api.OK || !alike(got, d) {
		t.Fatalf("%v is printed as %q, and parsed as %v, %d", d, s, got, err)
	}
	return true
}

func TestP14_5PrintParse(t *testing.T) {
	for _, d := range right() {
		backAgain(t, d)
	}
	for n := -1; n <= 1000; n++ {
		if !backAgain(t, of(at("sip:a@b", n))) {
			t.Errorf("the priority %d is too long", n)
		}
	}
}

// TestP14_5Edge asks for just as many bytes as can be parsed, and one more.
func TestP14_5Edge(t *testing.T) {
	d := fullest()
	for i := range d.Notes {
		d.Notes[i] = long(128)
	}
	s, _ := pidf.Print(d)
	more := len(s) - api.MaxBytes
	for i := 0; more > 0; i++ {
		cut := min(more, 127)
		d.Notes[i] = long(128 - cut)
		more -= cut
	}
	if s, err := pidf.Print(d); len(s) != 4096 || err != api.OK || !backAgain(t, d) {
		t.Errorf("%d bytes, %d", len(s), err)
	}
	d.Tuples[0].Note += "x"
	if s, err := pidf.Print(d); len(s) != 4097 || err != api.OK || backAgain(t, d) {
		t.Errorf("%d bytes, %d", len(s), err)
	}
}

// anyDocument makes a document from draws.
func anyDocument(r *rand.Rand) api.Doc {
	pick := func(l ...string) string { return l[r.IntN(len(l))] }
	text := func() string {
		return pick("x", "sip:a@b;x=1", "a b", "a \t\r\n b", "&", "<", ">", `"`, "'", "&amp;", "<note>n</note>", "</note>", "open", "é", "\x80\xff", long(128))
	}
	d := api.Doc{Entity: pick("a@b", "Bob@example.org", "a%20b@c", "a&b@c", "a;b?c@[::1]", "'@x", "%22%3C@h")}
	for i := range r.IntN(8) {
		t := api.Tuple{ID: pick("t", "<", "&quot;", `"`, "'", "~!", "0") + scan.Digits(i), Open: r.IntN(2) == 0, Priority: -1}
		if r.IntN(2) == 0 {
			t.Contact, t.Priority = text(), r.IntN(1002)-1
		}
		if r.IntN(2) == 0 {
			t.Note = text()
		}
		d.Tuples = append(d.Tuples, t)
	}
	for range r.IntN(8) {
		d.Notes = append(d.Notes, text())
	}
	return d
}

func TestP14_5PrintParseMany(t *testing.T) {
	r := rand.New(rand.NewPCG(14, 5))
	short := 0
	for range 5000 {
		if backAgain(t, anyDocument(r)) {
			short++
		}
	}
	if short < 4000 {
		t.Errorf("only %d documents are short enough", short)
	}
}

func TestRuleMemoryPrint(t *testing.T) {
	d := api.Doc{Entity: "alice@example", Tuples: []api.Tuple{{ID: "first", Contact: "sip:here", Priority: 5, Note: "my note"}}, Notes: []string{"your note"}}
	a, err := pidf.Print(d)
	b, again := pidf.Print(d)
	if err != api.OK || again != api.OK || a != b {
		t.Fatal(err, again)
	}
	if !apart(a, b) {
		t.Error("two answers share memory")
	}
	for _, word := range wordsOf(d) {
		if !apart(a, word) {
			t.Errorf("%q lies in the answer", word)
		}
	}
}
