package xml_test

import (
	"math/rand/v2"
	"slices"
	"strings"
	"testing"

	"roster/api"
	"roster/xml"
)

// first is what stands ahead of what is printed.
const first = "<?xml version=\"1.0\" encoding=\"UTF-8\"?>\n"

func TestP13_2Print(t *testing.T) {
	for _, x := range []struct {
		l    []api.Node
		want string
	}{
		{nodes(node(0, "a")), "<a/>"},
		{nodes(says(0, "a", "x")), "<a>x</a>"},
		{nodes(says(0, "a", "x \r\n\t y")), "<a>x \r\n\t y</a>"},
		{nodes(node(0, "a", with("b", "1"))), `<a b="1"/>`},
		{nodes(node(0, "a", with("b", ""))), `<a b=""/>`},
		{nodes(node(0, "a", with("z", " 1 "), with("b", "\n"), with("Z", "'"))), "<a z=\" 1 \" b=\"\n\" Z=\"'\"/>"},
		{nodes(api.Node{Name: "a", Attrs: []api.Param{with("b", "1")}, Text: "x"}), `<a b="1">x</a>`},
		{nodes(node(0, "a"), node(1, "b")), "<a><b/></a>"},
		{nodes(node(0, "a"), node(1, "b"), node(1, "c")), "<a><b/><c/></a>"},
		{nodes(node(0, "a"), node(1, "b"), node(2, "c"), node(1, "d")), "<a><b><c/></b><d/></a>"},
		{nodes(node(0, "a"), says(1, "b", "1"), says(1, "b", "2"), node(1, "b")), "<a><b>1</b><b>2</b><b/></a>"},
		{nodes(node(0, "a", with("x", "1")), node(1, "b", with("y", "2")), says(2, "c", "z")), `<a x="1"><b y="2"><c>z</c></b></a>`},
		{nodes(node(0, "p:a", with("xmlns:p", "urn:x")), says(1, "p:b", "é\xff")), "<p:a xmlns:p=\"urn:x\"><p:b>é\xff</p:b></p:a>"},
		{nodes(says(0, "a", `&<>"'`)), "<a>&amp;&lt;&gt;&quot;'</a>"},
		{nodes(node(0, "a", with("b", `&<>"'`))), `<a b="&amp;&lt;&gt;&quot;'"/>`},
		{nodes(says(0, "a", "&amp;")), "<a>&amp;amp;</a>"},
		{nodes(says(0, "a", "]]>;")), "<a>]]&gt;;</a>"},
		{chain(8), strings.Repeat("<c>", 7) + "<c/>" + strings.Repeat("</c>", 7)},
		{append(chain(8), node(4, "d"), node(1, "e")), "<c><c><c><c><c><c><c><c/></c></c></c><d/></c></c></c><e/></c>"},
		{wide(200), "<a>" + strings.Repeat("<b/>", 199) + "</a>"},
	} {
		if got, err := xml.Print(x.l); got != first+x.want || err != api.OK {
			t.Errorf("Print(%v) = %q, %d", x.l, got, err)
		}
	}
}

func TestP13_2PrintWrong(t *testing.T) {
	for _, l := range wrong() {
		if got, err := xml.Print(l); got != "" || err != api.ErrXML {
			t.Errorf("Print(%.300v) = %.300q, %d", l, got, err)
		}
	}
}

func TestP13_2PrintBytes(t *testing.T) {
	written := map[int]string{'&': "&amp;", '<': "&lt;", '>': "&gt;", '"': "&quot;"}
	for i := range 256 {
		want, ok := written[i]
		if !ok {
			want = one(i)
		}
		got, err := xml.Print(nodes(api.Node{Name: "a", Attrs: []api.Param{with("b", one(i)), with("c", "x"+one(i)+"y")}, Text: "x" + one(i) + "y"}))
		if !isSign(i) {
			if got != "" || err != api.ErrXML {
				t.Errorf("the byte %d is printed: %q, %d", i, got, err)
			}
		} else if got != first+`<a b="`+want+`" c="x`+want+`y">x`+want+`y</a>` || err != api.OK {
			t.Errorf("the byte %d is printed as %q, %d", i, got, err)
		}
	}
}

// TestP13_2PrintLong asks for more than can be parsed again: nothing limits what is printed.
func TestP13_2PrintLong(t *testing.T) {
	got, err := xml.Print(nodes(says(0, "a", strings.Repeat("<", 100000))))
	if want := first + "<a>" + strings.Repeat("&lt;", 100000) + "</a>"; got != want || err != api.OK {
		t.Errorf("of a long text: %d bytes, %d", len(got), err)
	}
}

func TestRuleMemoryPrint(t *testing.T) {
	l := nodes(node(0, "anything", with("something", "of this")), says(1, "nothing", "of that"))
	a, err := xml.Print(l)
	b, again := xml.Print(l)
	if err != api.OK || again != api.OK || a != b {
		t.Fatal(err, again)
	}
	if !apart(a, b) {
		t.Error("two answers share memory")
	}
	for _, word := range wordsOf(l) {
		if !apart(a, word) {
			t.Errorf("%q lies in the answer", word)
		}
	}
}

// backAgain asks whether a document is parsed as it was printed of.
func backAgain(t *testing.T, l []api.Node) {
	t.Helper()
	s, err := xml.Print(l)
	if err != api.OK {
		t.Fatalf("Print(%v) = %d", l, err)
	}
	got, err := xml.Parse(s)
	if len(s) > api.MaxBytes {
		if err != api.ErrLong || got != nil {
			t.Fatalf("%d bytes are parsed: %d", len(s), err)
		}
		return
	}
	if err != api.OK || !alike(got, l) {
		t.Fatalf("%v is printed as %q, and parsed as %v, %d", l, s, got, err)
	}
}

// odd are texts that stand in elements and values of documents to be told there and back.
var odd = []string{"", "x", "a b", "a \t\r\n b", "&", "<", ">", `"`, "'", `"'"`, "&amp;", "&lt", "&;", "&&", "<a/>", "</a>", "<!-- -->", "<?xml?>", "?>", "]]>", "=", "/", "/>", ";", "#", "&#65;", "é", "\x80\xff", long(300)}

func TestP13_5PrintParse(t *testing.T) {
	for _, text := range odd {
		backAgain(t, nodes(says(0, "a", text)))
		backAgain(t, nodes(node(0, "a"), says(1, "b", text), says(1, "c", text), says(1, "b", text)))
		for _, value := range append(slices.Clone(odd), " ", " x ", "\r\n", "\t") {
			backAgain(t, nodes(api.Node{Name: "a", Attrs: []api.Param{with("b", value)}, Text: text}))
			backAgain(t, nodes(node(0, "a", with("c", value), with("b", value)), api.Node{Deep: 1, Name: "a", Attrs: []api.Param{with("b", text)}, Text: text}))
		}
	}
	for _, l := range [][]api.Node{chain(8), wide(200), deeps(0, 1, 2, 3, 2, 1, 1, 2), nodes(node(0, "a", counted(16)...)), nodes(node(0, long(64), with(long(64), "1"))), nodes(says(0, "a", long(5000)))} {
		backAgain(t, l)
	}
}

// TestP13_5Edge asks for just as many bytes as can be parsed, and one more.
func TestP13_5Edge(t *testing.T) {
	room := api.MaxBytes - len(first) - len("<a></a>")
	backAgain(t, nodes(says(0, "a", long(room))))
	backAgain(t, nodes(says(0, "a", long(room+1))))
	s, _ := xml.Print(nodes(says(0, "a", long(room))))
	if got, err := xml.Parse(s); len(s) != 4096 || err != api.OK || !alike(got, nodes(says(0, "a", long(room)))) {
		t.Errorf("%d bytes: %d", len(s), err)
	}
	if got, err := xml.Parse(s + " "); err != api.ErrLong || got != nil {
		t.Errorf("one byte more: %v, %d", got, err)
	}
}

func TestP13_5PrintParseBytes(t *testing.T) {
	for i := range 256 {
		if isSign(i) {
			backAgain(t, nodes(node(0, "a", with("b", one(i))), says(1, "c", "x"+one(i)+"y")))
		}
		if isSign(i) && !isBlank(i) {
			backAgain(t, nodes(says(0, "a", one(i))))
		}
	}
}

// anyDocument makes a document from draws.
func anyDocument(r *rand.Rand) []api.Node {
	pick := func(l ...string) string { return l[r.IntN(len(l))] }
	short := odd[:len(odd)-1]
	var l []api.Node
	deep := 0
	for i := range 1 + r.IntN(20) {
		if i > 0 {
			deep = 1 + r.IntN(min(deep+1, 7))
		}
		n := api.Node{Deep: deep, Name: pick("a", "b", "aa", "p:a", "_", "a.b-c")}
		for j := range r.IntN(4) {
			n.Attrs = append(n.Attrs, with(pick("a", "b", "x:y")+strings.Repeat("z", j), pick(short...)))
		}
		if i > 0 && l[i-1].Deep < deep {
			l[i-1].Text = ""
		}
		n.Text = pick(short...)
		l = append(l, n)
	}
	return l
}

func TestP13_5PrintParseMany(t *testing.T) {
	r := rand.New(rand.NewPCG(13, 5))
	for range 5000 {
		backAgain(t, anyDocument(r))
	}
}

func TestP13_5Blanks(t *testing.T) {
	r := rand.New(rand.NewPCG(5, 13))
	for range 2000 {
		l := anyDocument(r)
		s, err := xml.Print(l)
		if err != api.OK {
			t.Fatalf("Print(%v) = %d", l, err)
		}
		for _, b := range []string{" ", "\t", "\r", "\n", "\r\n  \t"} {
			// Signs of texts and values stand behind an &, so that these two stand between elements alone.
			spread := strings.ReplaceAll(s, "><", ">"+b+"<") + b
			if len(spread) > api.MaxBytes {
				continue
			}
			if got, err := xml.Parse(spread); err != api.OK || !alike(got, l) {
				t.Fatalf("Parse(%q) = %v, %d, not %v", spread, got, err, l)
			}
		}
	}
}
