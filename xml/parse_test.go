package xml_test

import (
	"math/rand/v2"
	"regexp"
	"slices"
	"strings"
	"testing"

	"roster/api"
	"roster/xml"
)

func TestP13_3Parse(t *testing.T) {
	for _, x := range []struct {
		s    string
		want []api.Node
	}{
		{"<a/>", nodes(node(0, "a"))},
		{"<a></a>", nodes(node(0, "a"))},
		{"<a />", nodes(node(0, "a"))},
		{"<a\n></a\t >", nodes(node(0, "a"))},
		{" \t\r\n<a/> \t\r\n", nodes(node(0, "a"))},
		{"<_/>", nodes(node(0, "_"))},
		{"<a.b-c:d/>", nodes(node(0, "a.b-c:d"))},
		{"<" + long(64) + "/>", nodes(node(0, long(64)))},
		// What stands ahead of the element.
		{"<?xml?><a/>", nodes(node(0, "a"))},
		{"<?xml version='1.0'?><a/>", nodes(node(0, "a"))},
		{first + "<a/>\n", nodes(node(0, "a"))},
		{"<?xml?>\r\n\t <a/>", nodes(node(0, "a"))},
		{"<?xml <a> \x00\xff & ' \" =\n?><a/>", nodes(node(0, "a"))},
		{"<?xml-any?><a/>", nodes(node(0, "a"))},
		{"<?xml>?><a/>", nodes(node(0, "a"))},
		// Attributes.
		{"<a b='1'/>", nodes(node(0, "a", with("b", "1")))},
		{`<a b="1"></a>`, nodes(node(0, "a", with("b", "1")))},
		{`<a b="" c=''/>`, nodes(node(0, "a", with("b", ""), with("c", "")))},
		{"<a \t\r\nb \t\r\n= \t\r\n' 1\n'\r\n/>", nodes(node(0, "a", with("b", " 1\n")))},
		{`<a b="it's" c='"'/>`, nodes(node(0, "a", with("b", "it's"), with("c", `"`)))},
		{"<a b='>' c='/>' d='='/>", nodes(node(0, "a", with("b", ">"), with("c", "/>"), with("d", "=")))},
		{"<a b='&amp;&lt;&gt;&quot;&apos;'/>", nodes(node(0, "a", with("b", `&<>"'`)))},
		{`<a b="&apos;&quot;;"/>`, nodes(node(0, "a", with("b", `'";`)))},
		{"<a b='&amp;lt;'/>", nodes(node(0, "a", with("b", "&lt;")))},
		{"<a b='1' B='2' a='3'/>", nodes(node(0, "a", with("b", "1"), with("B", "2"), with("a", "3")))},
		{"<a xmlns:p='urn:x' p:b='é\xff'/>", nodes(node(0, "a", with("xmlns:p", "urn:x"), with("p:b", "é\xff")))},
		{"<a " + long(64) + "='1'/>", nodes(node(0, "a", with(long(64), "1")))},
		// Texts.
		{"<a>x</a>", nodes(says(0, "a", "x"))},
		{"<a> \t\r\n </a>", nodes(node(0, "a"))},
		{"<a>\r\n x \t y\n </a>", nodes(says(0, "a", "x \t y"))},
		{"<a>>'\"=/?!;</a>", nodes(says(0, "a", ">'\"=/?!;"))},
		{"<a>&amp;&lt;&gt;&quot;&apos;</a>", nodes(says(0, "a", `&<>"'`))},
		{"<a> &lt; x &gt; </a>", nodes(says(0, "a", "< x >"))},
		{"<a>&amp;amp;</a>", nodes(says(0, "a", "&amp;"))},
		{"<a>amp; é\xff</a>", nodes(says(0, "a", "amp; é\xff"))},
		{"<a b='1' >x</a >", nodes(api.Node{Name: "a", Attrs: []api.Param{with("b", "1")}, Text: "x"})},
		// Elements.
		{"<a><b/></a>", nodes(node(0, "a"), node(1, "b"))},
		{"<a> <b> </b>\n<c/>\t</a>", nodes(node(0, "a"), node(1, "b"), node(1, "c"))},
		{"<a><a><a>x</a></a><a>y</a></a>", nodes(node(0, "a"), node(1, "a"), says(2, "a", "x"), says(1, "a", "y"))},
		{"<a b='1'> <c>x &lt; y </c></a>", nodes(node(0, "a", with("b", "1")), says(1, "c", "x < y"))},
		{"<a b='1'><b b='1'/><b b='2'>2</b></a>", nodes(node(0, "a", with("b", "1")), node(1, "b", with("b", "1")), api.Node{Deep: 1, Name: "b", Attrs: []api.Param{with("b", "2")}, Text: "2"})},
	} {
		if got, err := xml.Parse(x.s); err != api.OK || !alike(got, x.want) {
			t.Errorf("Parse(%q) = %v, %d", x.s, got, err)
		}
	}
}

func TestP13_3ParseWrong(t *testing.T) {
	for _, s := range []string{
		"", " ", "a", "<", ">", "<>", "</>", "<a", "<a ", "<a/", "<a>", "<a>x", "<a></", "<a></a", "<a></a ", "<a><", "<a><b", "<a><b/>", "<a><b></b>",
		"</a>", "< a/>", "<a/ >", "<a / >", "<a//>", "<a/b>", "<a/></a>", "<a></ a>", "<a></b>", "<a></A>", "<a></ab>", "<ab></a>", "<a></a b='1'>", "<a></a/>", "<a></>",
		"<a><b></a></b>", "<a><b></a>", "<a></b></a>", "<a/>x", "x<a/>", "<a/><a/>", "<a/><b/>", "<a/>\x00", "\x00<a/>", "\v<a/>", "<a/>\f", "\xef\xbb\xbf<a/>", "&amp;<a/>",
		// Names.
		"<1/>", "<-/>", "<:a/>", "<é/>", "<a+/>", "<a\v/>", "<a\x00/>", "<a='1'/>", "<'a'/>", "<a<b/>", "<" + long(65) + "/>", "<" + long(65) + "></" + long(65) + ">",
		// What stands ahead of the element.
		"<?xml", "<?xml?", "<?xml>", "<?xml?>", "<?xml? ><a/>", "<?xml ? ?><a/>", "<?xml??><a/>", "<?xml v='?'?><a/>", "<?xml/><a/>", " <?xml?><a/>", "\n<?xml?><a/>", "<?xml?>x<a/>",
		"<?xml?><?xml?><a/>", "<?XML?><a/>", "<?xm?><a/>", "<?x?><a/>", "<? xml?><a/>", "<a/><?xml?>", "<a><?xml?></a>", "<xml?><a/>", "<?xml ?\n><a/>", "<?xml></a><a/>",
		// What is no part of this one.
		"<!-- --><a/>", "<a><!-- --></a>", "<a/><!-- -->", "<!DOCTYPE a><a/>", "<a><![CDATA[x]]></a>", "<a><?b?></a>",
		// Attributes.
		"<a b/>", "<a b=/>", "<a b=1/>", "<a b='1/>", "<a b='1\"/>", "<a b=\"1'/>", "<a b='1'", "<a b='1", "<a b='", "<a b=", "<a b", "<a b='1'>", "<a='1'/>", "<a ='1'/>", "<a b=='1'/>",
		"<a b='1'c='2'/>", "<a b='1' c/>", "<a b c='1'/>", "<a b'1'/>", "<a 1b='1'/>", "<a :b='1'/>", "<a /b='1'/>", "<a >b='1'/>", "<a b>='1'></a>", "<a b=`1`/>", "<a b= = '1'/>", "<a b='1''/>",
		"<a b='<'/>", "<a b='x<y'/>", "<a b='</a>'/>", "<a b='&'/>", "<a b='&x;'/>", "<a b='&lt'/>", "<a b='& lt;'/>", "<a b='&LT;'/>", "<a b='\x00'/>", "<a b='x\x7f'/>", "<a b='\v'/>",
		"<a b='1' b='2'/>", "<a b='1' c='1' b='1'/>", "<a " + long(65) + "='1'/>", "<a>b='1'", "<a b='1', c='2'/>", "<a\vb='1'/>", "<a b\v='1'/>", "<a b=\v'1'/>", "<a b='1'\v/>", "<a b='1'x/>",
		// Texts.
		"<a>&</a>", "<a>x & y</a>", "<a>&x;</a>", "<a>&lt</a>", "<a>&lt x;</a>", "<a>&Lt;</a>", "<a>&;</a>", "<a>&&amp;</a>", "<a>&amp;&</a>", "<a>&am&amp;p;</a>", "<a>& amp;</a>", "<a>&amp ;</a>",
		"<a>&#65;</a>", "<a>&#x41;</a>", "<a>&nbsp;</a>", "<a>&ltx;</a>", "<a>&amplt;</a>", "<a>&quote;</a>", "<a>\x00</a>", "<a>x\x1fy</a>", "<a>\x7f</a>", "<a>\v</a>", "<a>\fx</a>",
		// A text beside elements.
		"<a>x<b/></a>", "<a><b/>x</a>", "<a b='1'> <c/>x</a>", "<a><b/>x<b/></a>", "<a>&amp;<b/></a>", "<a>&am<b/>p;</a>", "<a>&<b/></a>", "<a>\v<b/></a>", "<a><b>x<c/></b></a>", "<a><b/>></a>",
	} {
		if got, err := xml.Parse(s); err != api.ErrXML || got != nil {
			t.Errorf("Parse(%q) = %v, %d", s, got, err)
		}
	}
}

// nested is a text of n elements, each in the one ahead of it.
func nested(n int) string {
	return strings.Repeat("<a>", n) + strings.Repeat("</a>", n)
}

// attributed is an element with n attributes.
func attributed(n int) string {
	var s strings.Builder
	for _, p := range counted(n) {
		s.WriteString(" " + p.Name + "='" + p.Value + "'")
	}
	return "<a" + s.String() + "/>"
}

func TestP13_3ParseLimits(t *testing.T) {
	many := func(n int) string { return "<a>" + strings.Repeat("<b/>", n-1) + "</a>" }
	for _, x := range []struct {
		s     string
		count int
		err   api.Errno
	}{
		{nested(8), 8, api.OK},
		{nested(9), 0, api.ErrXML},
		{nested(585), 0, api.ErrXML},
		{strings.Repeat("<a>", 1365), 0, api.ErrXML},
		{strings.Repeat("<", 4096), 0, api.ErrXML},
		{strings.Repeat("<a ", 1365), 0, api.ErrXML},
		{many(200), 200, api.OK},
		{many(201), 0, api.ErrXML},
		{many(1000), 0, api.ErrXML},
		{attributed(16), 1, api.OK},
		{attributed(17), 0, api.ErrXML},
		{attributed(300), 0, api.ErrXML},
		{"<a>" + long(4089) + "</a>", 1, api.OK},
		{"<a b='" + long(4087) + "'/>", 1, api.OK},
		{"<a/>" + strings.Repeat(" ", 4092), 1, api.OK},
		{strings.Repeat("\n", 4092) + "<a/>", 1, api.OK},
		{"<?xml" + long(4085) + "?><a/>", 1, api.OK},
		// Its length is asked for first.
		{"<a>" + long(4090) + "</a>", 0, api.ErrLong},
		{"<a/>" + strings.Repeat(" ", 4093), 0, api.ErrLong},
		{long(4097), 0, api.ErrLong},
		{long(4096), 0, api.ErrXML},
		{strings.Repeat("<", 4097), 0, api.ErrLong},
		{many(2000), 0, api.ErrLong},
		{strings.Repeat("<a>", 100000), 0, api.ErrLong},
	} {
		if got, err := xml.Parse(x.s); err != x.err || len(got) != x.count {
			t.Errorf("Parse(%.40q .. of %d bytes): %d elements, %d", x.s, len(x.s), len(got), err)
		}
	}
	got, err := xml.Parse(attributed(16))
	if err != api.OK || !alike(got, nodes(node(0, "a", counted(16)...))) {
		t.Errorf("of 16 attributes: %v, %d", got, err)
	}
}

const (
	nameForm  = `[A-Za-z_][A-Za-z0-9_.:-]{0,63}`
	blankForm = `[ \t\r\n]`
	writForm  = `&(?:amp|lt|gt|quot|apos);`
	noSigns   = `&<\x00-\x08\x0b\x0c\x0e-\x1f\x7f`
	valueForm = `(?:"(?:` + writForm + `|[^"` + noSigns + `])*"|'(?:` + writForm + `|[^'` + noSigns + `])*')`
	attrForm  = blankForm + `+(` + nameForm + `)` + blankForm + `*=` + blankForm + `*(` + valueForm + `)`
)

var (
	ahead  = regexp.MustCompile(`^<\?xml[^?]*\?>`)
	attr   = regexp.MustCompile(attrForm)
	opens  = regexp.MustCompile(`^<(` + nameForm + `)((?:` + attrForm + `)*)` + blankForm + `*(/?)>`)
	closes = regexp.MustCompile(`^</(` + nameForm + `)` + blankForm + `*>`)
	words  = regexp.MustCompile(`^(?:` + writForm + `|[^` + noSigns + `])+`)
	signs  = strings.NewReplacer("&amp;", "&", "&lt;", "<", "&gt;", ">", "&quot;", `"`, "&apos;", "'")
)

// latin writes each byte as the rune of its number, so that patterns look at bytes.
func latin(s string) string {
	var l []rune
	for i := range len(s) {
		l = append(l, rune(s[i]))
	}
	return string(l)
}

// bytesOf turns latin round.
func bytesOf(s string) string {
	var l []byte
	for _, r := range s {
		l = append(l, byte(r))
	}
	return string(l)
}

// tag reads what opens an element.
func tag(m []string, deep int) api.Node {
	n := api.Node{Deep: deep, Name: m[1]}
	for _, p := range attr.FindAllStringSubmatch(m[2], -1) {
		n.Attrs = append(n.Attrs, with(p[1], bytesOf(signs.Replace(p[2][1:len(p[2])-1]))))
	}
	return n
}

// read reads a document in another way: piece by piece, each held against a
// pattern, with a list of what is open.
func read(s string) ([]api.Node, api.Errno) {
	if len(s) > 4096 {
		return nil, api.ErrLong
	}
	rest := strings.Trim(ahead.ReplaceAllString(latin(s), ""), " \t\r\n")
	var l []api.Node
	var open []int
	for len(l) == 0 || len(open) > 0 {
		last := len(open) - 1
		if m := opens.FindStringSubmatch(rest); m != nil {
			l = append(l, tag(m, len(open)))
			if m[len(m)-1] == "" {
				open = append(open, len(l)-1)
			}
			rest = rest[len(m[0]):]
		} else if m := closes.FindStringSubmatch(rest); m != nil && last >= 0 && l[open[last]].Name == m[1] {
			open = open[:last]
			rest = rest[len(m[0]):]
		} else if m := words.FindString(rest); m != "" && last >= 0 {
			l[open[last]].Text += m
			rest = rest[len(m):]
		} else {
			return nil, api.ErrXML
		}
	}
	if rest != "" || len(l) > 200 {
		return nil, api.ErrXML
	}
	return readRest(l)
}

// readRest reads the texts, and asks for what no pattern tells.
func readRest(l []api.Node) ([]api.Node, api.Errno) {
	for i := range l {
		l[i].Text = bytesOf(signs.Replace(strings.Trim(l[i].Text, " \t\r\n")))
		has := map[string]bool{}
		for _, p := range l[i].Attrs {
			has[p.Name] = true
		}
		full := i+1 < len(l) && l[i+1].Deep > l[i].Deep
		if l[i].Deep > 7 || len(l[i].Attrs) > 16 || len(has) < len(l[i].Attrs) || full && l[i].Text != "" {
			return nil, api.ErrXML
		}
	}
	return l, api.OK
}

// compare holds Parse against read, and tells whether there is a document.
func compare(t *testing.T, s string) bool {
	t.Helper()
	want, none := read(s)
	got, err := xml.Parse(s)
	if err != none || !alike(got, want) || err != api.OK && got != nil {
		t.Fatalf("Parse(%q) = %v, %d, not %v, %d", s, got, err, want, none)
	}
	return err == api.OK
}

func TestP13_3ParseAll(t *testing.T) {
	parsed := 0
	ask := func(s string) {
		if compare(t, s) {
			parsed++
		}
	}
	for _, s := range texts(6, "<", "a", "/", ">", " ", "=", "'") {
		ask(s)
		ask("<a" + s + "></a>")
	}
	for _, s := range texts(5, "<a>", "</a>", "<a/>", " ", "x", "&lt;", "</", ">") {
		ask(s)
		ask("<a>" + s + "</a>")
	}
	for _, s := range texts(5, " ", "b", "=", "'", `"`, "\n", "b='1'", "/") {
		ask("<a " + s + "/>")
	}
	for _, s := range texts(6, "&", "amp", ";", "lt", " ", "x") {
		ask("<a>" + s + "</a>")
		ask("<a b='" + s + "'/>")
	}
	for _, s := range texts(5, "<?xml", "?", ">", "?>", " ", "<a/>", "a") {
		ask(s)
		ask("<?xml" + s + "<a/>")
	}
	if parsed < 5000 {
		t.Errorf("only %d texts are documents", parsed)
	}
}

func TestP13_3ParseBytes(t *testing.T) {
	for i := range 256 {
		c := one(i)
		for _, s := range []string{c, "b" + c, c + "b", "b" + c + "b"} {
			for _, around := range []string{"*", "*<a/>", "<*a/>", "<a*/>", "<a/*>", "<a/>*", "<a*></a>", "<a></*a>", "<a></a*>", "<a>*</a>", "<*></*>", "<a>&*;</a>", "<a>&amp*</a>",
				"<a*c='1'/>", "<a *='1'/>", "<a c*='1'/>", "<a c=*'1'/>", "<a c='*'/>", "<a c=\"*\"/>", "<a c='1'*/>", "<a c='1'*d='2'/>", "<a c=*1*/>", "<a c='&*;'/>",
				"<a><c/>*</a>", "<a>*<c/></a>", "<*?xml?><a/>", "<?*xml?><a/>", "<?xml*?><a/>", "<?xml?*><a/>", "<?xml?>*<a/>", "*<?xml?><a/>"} {
				compare(t, strings.ReplaceAll(around, "*", s))
			}
		}
	}
}

// TestP13_3ParseNear asks for texts that are nearly documents: a byte is gone, changed, or too much.
func TestP13_3ParseNear(t *testing.T) {
	for _, s := range []string{
		first + "<p:a x = 'y'  z=\"&amp;&apos;\" >\n <b/> <c >t &gt; u </c >\n</p:a >\n",
		"<a b='1'> <c>x &lt; y </c></a>",
		"<presence xmlns=\"urn:x\" entity=\"pres:a@b\"><tuple id='t'><status><basic>open</basic></status><contact priority=\"0.5\">sip:a@b</contact></tuple></presence>",
	} {
		if !compare(t, s) {
			t.Fatalf("%q is no document", s)
		}
		for i := range len(s) + 1 {
			compare(t, s[:i])
			compare(t, s[i:])
			for _, c := range []string{"", "<", ">", "/", "=", "'", `"`, "&", ";", " ", "\n", "?", "a", "1", ":", "\x00", "\xff", "<a/>", "<a>", "</a>", "</c>", " b=''"} {
				compare(t, s[:i]+c+s[i:])
				if i < len(s) {
					compare(t, s[:i]+c+s[i+1:])
				}
			}
		}
	}
}

// TestP13_3ParseMany asks for long texts of mixed pieces.
func TestP13_3ParseMany(t *testing.T) {
	r := rand.New(rand.NewPCG(13, 3))
	pieces := []string{"<a>", "</a>", "<b x='1'>", "</b>", "<a/>", "<b y=\"&lt;\" z = ''/>", " ", "\r\n"}
	parsed := 0
	rare := []string{"x", "&amp;", "&", "<", ">", "</a >", "<a", "/>", "\x00", "é"}
	for range 20000 {
		var s strings.Builder
		var open []string
		for range r.IntN(40) {
			piece := pieces[r.IntN(len(pieces))]
			if r.IntN(60) == 0 {
				piece = rare[r.IntN(len(rare))]
			}
			// What closes another than the last one is left out, but for a few.
			if strings.HasPrefix(piece, "</") && r.IntN(100) > 0 {
				if len(open) == 0 || open[len(open)-1] != piece {
					continue
				}
				open = open[:len(open)-1]
			} else if piece == "<a>" || piece == "<b x='1'>" {
				open = append(open, "</"+piece[1:2]+">")
			}
			s.WriteString(piece)
		}
		slices.Reverse(open)
		if compare(t, "<a>"+s.String()+strings.Join(open, "")+"</a>") {
			parsed++
		}
	}
	if parsed < 5000 || parsed > 19000 {
		t.Errorf("%d texts are documents", parsed)
	}
}

func TestP13_5ParsePrint(t *testing.T) {
	parsed := 0
	ask := func(s string) {
		l, err := xml.Parse(s)
		if err != api.OK {
			return
		}
		parsed++
		backAgain(t, l)
	}
	for _, s := range texts(5, "<a>", "</a>", "<a/>", " ", "x", "&lt;", "\n", ">") {
		ask("<a>" + s + "</a>")
	}
	for _, s := range texts(5, "&amp;", "lt;", " ", `"`, ">", "\n") {
		ask("<a b='" + s + "'>" + s + "</a>")
	}
	if parsed < 5000 {
		t.Errorf("only %d texts are documents", parsed)
	}
	// What is parsed may be too long when it is printed.
	l, err := xml.Parse("<a>" + strings.Repeat(">", 4000) + "</a>")
	if err != api.OK {
		t.Fatal(err)
	}
	backAgain(t, l)
}

func TestRuleMemoryParse(t *testing.T) {
	s := strings.Clone("<some b1='any thing' c1='&amp;more'><else>a text</else><this d1='one'/><this d1='two'/></some>")
	a, err := xml.Parse(s)
	b, again := xml.Parse(s)
	if err != api.OK || again != api.OK || !alike(a, b) || len(a) != 4 {
		t.Fatal(err, again)
	}
	given := append(wordsOf(a), s)
	for i, x := range given {
		for _, y := range append(wordsOf(b), given[i+1:]...) {
			if !apart(x, y) {
				t.Errorf("%q and %q share memory", x, y)
			}
		}
	}
	// Whatever is written into an answer, or into its lists' spare room, shows nowhere else.
	for i := range a {
		want := copied(a)
		_ = append(a[i].Attrs, with("x", "y"), with("z", "u"))
		if !alike(a, want) {
			t.Errorf("the attributes of %d grow into others: %v", i, a)
		}
	}
	a[0].Attrs[0], a[1].Name = with("x", "y"), "z"
	if c, err := xml.Parse(s); err != api.OK || !alike(b, c) || alike(a, c) {
		t.Errorf("answers share memory: %v, %v, %d", b, c, err)
	}
}
