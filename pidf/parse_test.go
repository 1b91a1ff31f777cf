package pidf_test

import (
	"math/rand/v2"
	"regexp"
	"slices"
	"strconv"
	"strings"
	"testing"

	"roster/api"
	"roster/pidf"
	"roster/same"
	"roster/uri"
	"roster/xml"
)

// around is a document of a@b with something in it.
func around(s string) string { return "<presence entity='pres:a@b'>" + s + "</presence>" }

// opened is a document of a@b with an open tuple t, and something in that.
func opened(s string) string {
	return around("<tuple id='t'><status><basic>open</basic></status>" + s + "</tuple>")
}

// stated is a document of a@b with a tuple t, and something in its status.
func stated(s string) string { return around("<tuple id='t'><status>" + s + "</status></tuple>") }

func TestP14_4Parse(t *testing.T) {
	for _, x := range []struct {
		s    string
		want api.Doc
	}{
		{"<presence entity='pres:a@b'/>", of()},
		{first + "<presence xmlns='urn:ietf:params:xml:ns:pidf' entity=\"pres:a@b\"></presence>\n", of()},
		{"<p:presence xmlns:p='urn:x' entity='pres:a@b'/>", of()},
		{"<_.-:presence entity='pres:a@b' id='x' priority='7' xmlns='urn:other'/>", of()},
		// Whose it is.
		{"<presence entity='sip:a@b'/>", of()},
		{"<presence entity='SIPS:a@B:5061;x=1?y=2'/>", of()},
		{"<presence entity='PRES:Bob@Example.ORG'/>", api.Doc{Entity: "Bob@example.org"}},
		{"<presence entity='sip:%61%20b@[::A]'/>", api.Doc{Entity: "a%20b@[::a]"}},
		{"<presence entity='sip:a&amp;b@c?x=1&amp;y=2'/>", api.Doc{Entity: "a&b@c"}},
		{"<presence p:entity='x' entity='pres:a@b' Entity='y'/>", of()},
		{"<presence entity='pres:" + long(64) + "@" + long(64) + "'/>", api.Doc{Entity: long(64) + "@" + long(64)}},
		// Tuples.
		{opened(""), of(bare("t"))},
		{stated("<basic>closed</basic>"), of(noted(""))},
		{stated("<basic>\r\n open\t</basic>"), of(bare("t"))},
		{stated("<basic x='1'>open</basic>"), of(bare("t"))},
		{stated("<x:basic>closed</x:basic>"), of(noted(""))},
		{stated("<x/><basic>open</basic><y><basic>closed</basic></y><note>n</note><contact>c</contact>"), of(bare("t"))},
		{opened("<x/>"), of(bare("t"))},
		{opened("<x><status/><contact>c</contact><note>n</note><tuple/></x>"), of(bare("t"))},
		{opened("<basic>closed</basic>"), of(bare("t"))},
		{opened("<Status/><STATUS/><Contact>c</Contact><Note>n</Note>"), of(bare("t"))},
		{opened("<tuple/>"), of(bare("t"))},
		{opened("<presence/>"), of(bare("t"))},
		{around("<tuple id='t'><note>n</note><contact>c</contact><status><basic>open</basic></status></tuple>"), of(api.Tuple{ID: "t", Open: true, Contact: "c", Priority: -1, Note: "n"})},
		{around("<p:tuple id='t' open='1'><q:status><r:basic>open</r:basic></q:status><s:contact>c</s:contact><u:note>n</u:note></p:tuple>"), of(api.Tuple{ID: "t", Open: true, Contact: "c", Priority: -1, Note: "n"})},
		{around("<tuple x:id='u' id='t'><status><basic>open</basic></status></tuple>"), of(bare("t"))},
		{around("<tuple id='&lt;&amp;'><status><basic>open</basic></status></tuple>"), of(bare("<&"))},
		{around("<tuple id='" + long(64) + "'><status><basic>open</basic></status></tuple>"), of(bare(long(64)))},
		{around("<tuple id='u'><status><basic>open</basic></status></tuple> <note>n</note> <x/> <tuple id='t'><status><basic>closed</basic></status></tuple>"), api.Doc{Entity: "a@b", Tuples: []api.Tuple{bare("u"), noted("")}, Notes: []string{"n"}}},
		// Contacts.
		{opened("<contact>sip:c</contact>"), of(at("sip:c", -1))},
		{opened("<contact> a \n b </contact>"), of(at("a \n b", -1))},
		{opened("<contact/>"), of(bare("t"))},
		{opened("<contact> </contact>"), of(bare("t"))},
		{opened("<contact><x>c</x></contact>"), of(bare("t"))},
		{opened("<contact priority='0'>c</contact>"), of(at("c", 0))},
		{opened("<contact priority='0.'>c</contact>"), of(at("c", 0))},
		{opened("<contact priority='0.50'>c</contact>"), of(at("c", 500))},
		{opened("<contact priority='0.050'>c</contact>"), of(at("c", 50))},
		{opened("<contact priority='0.001'>c</contact>"), of(at("c", 1))},
		{opened("<contact priority='1.000'>c</contact>"), of(at("c", 1000))},
		{opened("<contact x:priority='2' Priority='3' entity='' id=''>c</contact>"), of(at("c", -1))},
		{opened("<contact>" + long(128) + "</contact>"), of(at(long(128), -1))},
		// A priority of anything else plays no part.
		{around("<tuple id='t' priority='7'><status priority='7'><basic priority='7'>open</basic></status><note priority='7'>n</note></tuple><note priority='7'>m</note>"), api.Doc{Entity: "a@b", Tuples: []api.Tuple{{ID: "t", Open: true, Priority: -1, Note: "n"}}, Notes: []string{"m"}}},
		// Notes.
		{opened("<note>n</note>"), of(api.Tuple{ID: "t", Open: true, Priority: -1, Note: "n"})},
		{opened("<note/>"), of(bare("t"))},
		{opened("<note><x>n</x></note>"), of(bare("t"))},
		{opened("<note>" + long(128) + "</note>"), of(api.Tuple{ID: "t", Open: true, Priority: -1, Note: long(128)})},
		{around("<note>n</note>"), says("n")},
		{around("<note/><note> </note><note>m</note><note><note>x</note></note><x:note> n &lt; </x:note><note>m</note><Note>y</Note>"), says("m", "n <", "m")},
		{around("<x><note>n</note></x><status/><contact>c</contact><basic>open</basic>"), of()},
		{around("<x><tuple id='t'/></x><Tuple id='t'/><presence entity='x'><tuple/></presence>"), of()},
		{around(strings.Repeat("<note/>", 40) + "<note>n</note>"), says("n")},
		{around(strings.Repeat("<note>n</note>", 16)), says(slices.Repeat([]string{"n"}, 16)...)},
		{around(strings.Repeat("<note>n</note><note/>", 16)), says(slices.Repeat([]string{"n"}, 16)...)},
	} {
		if got, err := pidf.Parse(x.s); err != api.OK || !alike(got, x.want) {
			t.Errorf("Parse(%q) = %v, %d", x.s, got, err)
		}
	}
}

func TestP14_4ParseWrong(t *testing.T) {
	const status = "<status><basic>open</basic></status>"
	for _, s := range []string{
		"<a/>", "<x entity='pres:a@b'/>", "<Presence entity='pres:a@b'/>", "<presence2 entity='pres:a@b'/>", "<presence:x entity='pres:a@b'/>", "<presence: entity='pres:a@b'/>", "<a:b:presence entity='pres:a@b'/>", "<x><presence entity='pres:a@b'/></x>",
		// Whose it is.
		"<presence/>", "<presence entity=''/>", "<presence entity='a@b'/>", "<presence entity='tel:1'/>", "<presence entity='pres:'/>", "<presence entity='pres:b'/>", "<presence entity='sip:b;x'/>", "<presence entity='pres:@b'/>", "<presence entity='pres:a@'/>",
		"<presence entity=' pres:a@b'/>", "<presence entity='pres:a@b '/>", "<presence entity='pres:a@b:0'/>", "<presence entity='pres:a@b;x;x'/>", "<presence entity='pres:a b@c'/>", "<presence p:entity='pres:a@b'/>", "<presence Entity='pres:a@b'/>", "<presence id='pres:a@b'/>",
		"<presence entity='pres:" + long(65) + "@b'/>", "<presence entity='pres:a@" + long(65) + "'/>", "<presence><x entity='pres:a@b'/></presence>", "<presence entity='pres:b'><tuple id='t'>" + status + "</tuple></presence>",
		// What a tuple says.
		around("<tuple id='t'/>"), around("<tuple id='t'><x>" + status + "</x></tuple>"), around("<tuple id='t'><basic>open</basic></tuple>"), around("<tuple id='t'>open</tuple>"), around("<tuple id='t'><status>open</status></tuple>"),
		opened(status), opened("<status/>"), opened("<x:status/>"), opened("<x:status><basic>closed</basic></x:status>"), opened("<status>x</status>"),
		stated(""), stated("<x/>"), stated("<x><basic>open</basic></x>"), stated("<basic/>"), stated("<basic> </basic>"), stated("<basic>Open</basic>"), stated("<basic>OPEN</basic>"), stated("<basic>opened</basic>"), stated("<basic>open closed</basic>"), stated("<basic>close</basic>"),
		stated("<basic>o pen</basic>"), stated("<basic>true</basic>"), stated("<basic><open/></basic>"), stated("<basic><basic>open</basic></basic>"), stated("<basic>open</basic><basic>open</basic>"), stated("<basic>open</basic><basic>closed</basic>"), stated("<basic>open</basic><basic/>"),
		stated("<basic>open</basic><x:basic>open</x:basic>"), stated("<Basic>open</Basic>"),
		around("<tuple id='t'>" + status + "</tuple><tuple id='u'/>"), around("<tuple id='t'/><tuple id='u'>" + status + "</tuple>"),
		// IDs.
		around("<tuple>" + status + "</tuple>"), around("<tuple id=''>" + status + "</tuple>"), around("<tuple x:id='t'>" + status + "</tuple>"), around("<tuple ID='t'>" + status + "</tuple>"), around("<tuple id=' t'>" + status + "</tuple>"), around("<tuple id='t\n'>" + status + "</tuple>"), around("<tuple id='é'>" + status + "</tuple>"),
		around("<tuple id='" + long(65) + "'>" + status + "</tuple>"), around("<tuple id='t'>" + status + "</tuple><tuple id='t'>" + status + "</tuple>"), around("<tuple id='t'>" + status + "</tuple><x:tuple id='t'><status><basic>closed</basic></status></x:tuple>"),
		// Contacts.
		opened("<contact>c</contact><contact>c</contact>"), opened("<contact/><contact/>"), opened("<contact>c</contact><x:contact/>"), opened("<contact>c</contact><note/><contact>d</contact>"), opened("<contact>" + long(129) + "</contact>"),
		opened("<contact priority=''>c</contact>"), opened("<contact priority='2'>c</contact>"), opened("<contact priority='1.001'>c</contact>"), opened("<contact priority='.5'>c</contact>"), opened("<contact priority=' 0.5'>c</contact>"), opened("<contact priority='0.5 '>c</contact>"),
		opened("<contact priority='0.1234'>c</contact>"), opened("<contact priority='-1'>c</contact>"), opened("<contact priority='x'>c</contact>"), opened("<contact priority='0.5'/>"), opened("<contact priority='0'> </contact>"), opened("<contact priority='0'><x>c</x></contact>"), opened("<contact priority='x'/>"),
		opened("<x:contact priority='x'>c</x:contact>"),
		// Notes.
		opened("<note>n</note><note>n</note>"), opened("<note/><note/>"), opened("<note>n</note><x:note/>"), opened("<note/><x/><note>n</note>"), opened("<note>" + long(129) + "</note>"),
		around("<note>" + long(129) + "</note>"), around("<note>n</note><note>" + long(129) + "</note>"), around(strings.Repeat("<note>n</note>", 17)),
	} {
		if got, err := pidf.Parse(s); err != api.ErrPidf || !isZero(got) {
			t.Errorf("Parse(%q) = %v, %d", s, got, err)
		}
	}
}

// TestP14_4ParseXML asks for what is no XML at all, which is told first.
func TestP14_4ParseXML(t *testing.T) {
	for _, s := range []string{
		"", " ", "a", "<", "<a", "<presence", "<presence entity='pres:a@b'>", "<presence entity='pres:a@b'/>x", "<presence entity='pres:a@b' entity='pres:a@b'/>", "<presence entity=pres:a@b/>", "<presence entity='sip:a&b@c'/>", "<presence entity='pres:a@b'></Presence>",
		around("<note>n</note>x"), around("<note>\x00</note>"), around("<note>&x;</note>"), around("<note>n</note2>"), opened("<note>\x7f</note>"), around("<!-- -->"), around(strings.Repeat("<note/>", 200)), "<x>&</x>",
		around("<a><a><a><a><a><a><a><a/></a></a></a></a></a></a></a>"),
	} {
		if got, err := pidf.Parse(s); err != api.ErrXML || !isZero(got) {
			t.Errorf("Parse(%q) = %v, %d", s, got, err)
		}
	}
	for _, s := range []string{long(4097), opened("") + strings.Repeat(" ", 4096), "<x>" + long(4090) + "</x>", strings.Repeat("<presence>", 10000)} {
		if got, err := pidf.Parse(s); err != api.ErrLong || !isZero(got) {
			t.Errorf("Parse(%.40q .. of %d bytes) = %v, %d", s, len(s), got, err)
		}
	}
}

func TestP14_4ParseLimits(t *testing.T) {
	tuples := func(n int) string {
		var s strings.Builder
		for i := range n {
			s.WriteString("<tuple id='t" + strconv.Itoa(i) + "'><status><basic>" + []string{"open", "closed"}[i%2] + "</basic></status></tuple>")
		}
		return around(s.String())
	}
	if got, err := pidf.Parse(tuples(16)); err != api.OK || !alike(got, of(counted(16)...)) {
		t.Errorf("of 16 tuples: %v, %d", got, err)
	}
	for _, n := range []int{17, 18, 40} {
		if got, err := pidf.Parse(tuples(n)); err != api.ErrPidf || !isZero(got) {
			t.Errorf("of %d tuples: %v, %d", n, got, err)
		}
	}
	most := opened("") + strings.Repeat(" ", 4096-len(opened("")))
	if got, err := pidf.Parse(most); err != api.OK || !alike(got, of(bare("t"))) {
		t.Errorf("of 4096 bytes: %v, %d", got, err)
	}
	if got, err := pidf.Parse(around(strings.Repeat("<note/>", 199))); err != api.OK || !alike(got, of()) {
		t.Errorf("of 200 elements: %v, %d", got, err)
	}
}

// read reads a document in another way: by the path of each element, gone
// through once, and counts what stands where.
func read(s string) (api.Doc, api.Errno) {
	l, err := xml.Parse(s)
	if err != api.OK {
		return api.Doc{}, err
	}
	d := api.Doc{}
	good := true
	counts := []map[string]int{}
	var path []string
	for _, n := range l {
		_, name, told := strings.Cut(n.Name, ":")
		if !told {
			name = n.Name
		}
		path = append(path[:n.Deep], name)
		of := map[string]string{}
		for _, p := range n.Attrs {
			of[p.Name] = p.Value
		}
		last := len(d.Tuples) - 1
		where := strings.Join(path, "/")
		if rest, ok := strings.CutPrefix(where, "presence/tuple/"); ok {
			counts[last][rest]++
		}
		switch where {
		case "presence/tuple":
			d.Tuples = append(d.Tuples, api.Tuple{ID: of["id"], Priority: -1})
			counts = append(counts, map[string]int{})
		case "presence/tuple/status/basic":
			good = good && (n.Text == "open" || n.Text == "closed")
			d.Tuples[last].Open = n.Text == "open"
		case "presence/tuple/contact":
			d.Tuples[last].Contact = n.Text
			if p, ok := of["priority"]; ok {
				good = good && numberForm.MatchString(p)
				f, _ := strconv.ParseFloat(p, 64)
				d.Tuples[last].Priority = int(f*1000 + 0.5)
			}
		case "presence/tuple/note":
			d.Tuples[last].Note = n.Text
		case "presence/note":
			if n.Text != "" {
				d.Notes = append(d.Notes, n.Text)
			}
		case "presence":
			u, err := uri.Parse(of["entity"])
			good = good && err == api.OK
			d.Entity, _ = same.Who(u)
		}
	}
	good = good && path[0] == "presence"
	for _, c := range counts {
		good = good && c["status"] == 1 && c["status/basic"] == 1 && c["contact"] < 2 && c["note"] < 2
	}
	if !good || !fits(d) {
		return api.Doc{}, api.ErrPidf
	}
	return d, api.OK
}

var (
	numberForm = regexp.MustCompile(`^(?:0(?:\.[0-9]{0,3})?|1(?:\.0{0,3})?)$`)
	idForm     = regexp.MustCompile(`^[!-~]{1,64}$`)
)

// fits asks what Check asks of a document that was read.
func fits(d api.Doc) bool {
	has := map[string]bool{}
	for _, t := range d.Tuples {
		if has[t.ID] || !idForm.MatchString(t.ID) || len(t.Contact) > 128 || len(t.Note) > 128 || t.Contact == "" && t.Priority >= 0 {
			return false
		}
		has[t.ID] = true
	}
	long := slices.ContainsFunc(d.Notes, func(s string) bool { return len(s) > 128 })
	return d.Entity != "" && len(d.Tuples) <= 16 && len(d.Notes) <= 16 && !long
}

// compare asks both readers, and tells whether the text is a document, and
// then whether it comes there and back.
func compare(t *testing.T, s string) bool {
	t.Helper()
	got, err := pidf.Parse(s)
	want, wanted := read(s)
	if err != wanted || !alike(got, want) {
		t.Fatalf("Parse(%q) = %v, %d, not %v, %d", s, got, err, want, wanted)
	}
	if err != api.OK {
		return false
	}
	backAgain(t, got)
	return true
}

// texts are all texts of up to so many of some pieces.
func texts(most int, pieces ...string) []string {
	all := []string{""}
	from := 0
	for range most {
		to := len(all)
		for _, s := range all[from:to] {
			for _, p := range pieces {
				all = append(all, s+p)
			}
		}
		from = to
	}
	return all
}

func TestP14_4ParseAll(t *testing.T) {
	parsed := 0
	ask := func(s string) {
		if compare(t, s) {
			parsed++
		}
	}
	const status = "<status><basic>open</basic></status>"
	for _, s := range texts(4, "<tuple id='t'>"+status+"</tuple>", "<p:tuple id='u'>"+status+"</p:tuple>", "<tuple/>", "<note>n</note>", "<note/>", "<x:note>m</x:note>", "<x><note>y</note><tuple/></x>", status) {
		ask(around(s))
	}
	for _, s := range texts(4, status, "<p:status><basic>closed</basic></p:status>", "<status/>", "<contact>c</contact>", "<contact priority='0.25'>d</contact>", "<contact/>", "<note>n</note>", "<q:note/>", "<x>"+status+"</x>") {
		ask(around("<tuple id='t'>" + s + "</tuple>"))
		ask(opened(s))
	}
	for _, s := range texts(4, "<basic>open</basic>", "<q:basic>closed</q:basic>", "<basic/>", "<basic>Open</basic>", "<x/>", "<x><basic>open</basic></x>", "<note>n</note>") {
		ask(stated(s))
	}
	for _, s := range texts(5, "0", "1", ".", "5", " ", "-") {
		ask(opened("<contact priority='" + s + "'>c</contact>"))
		ask(opened("<contact priority='" + s + "'/>"))
	}
	for _, s := range texts(5, "pres:", "a", "@", "b", ";x", " ", "%20") {
		ask("<presence entity='" + s + "'/>")
	}
	if parsed < 3000 {
		t.Errorf("only %d texts are documents", parsed)
	}
}

func TestP14_4ParseBytes(t *testing.T) {
	for i := range 256 {
		for _, s := range []string{one(i), "b" + one(i), one(i) + "b", "b" + one(i) + "b"} {
			for _, form := range []string{around("<note>*</note>"), opened("<note>*</note>"), opened("<contact>*</contact>"), opened("<contact priority='*'>c</contact>"), opened("<contact priority='0*'>c</contact>"), opened("<contact priority='0.*'>c</contact>"),
				around("<tuple id='*'><status><basic>open</basic></status></tuple>"), stated("<basic>*</basic>"), stated("<basic>open*</basic>"), stated("<basic>*open</basic>"), "<presence entity='*'/>", "<presence entity='pres:*'/>", "<presence entity='pres:*@b'/>", "<presence entity='pres:a@*'/>", "<*presence entity='pres:a@b'/>", "<presence* entity='pres:a@b'/>"} {
				compare(t, strings.ReplaceAll(form, "*", s))
			}
		}
	}
}

// TestP14_4ParseNear asks for texts that are nearly documents: a byte is gone, changed, or too much.
func TestP14_4ParseNear(t *testing.T) {
	s := "<p:presence entity='sip:a@b;x'><p:tuple id='t'><note>n</note><p:status><p:basic> open </p:basic><x/></p:status><contact priority='0.50'>sip:a@c</contact></p:tuple><x><note>y</note></x><note/><note>m</note></p:presence>"
	if !compare(t, s) {
		t.Fatalf("%q is no document", s)
	}
	for i := range len(s) + 1 {
		compare(t, s[:i])
		for _, c := range []string{"", "<", ">", "/", "'", "&", " ", "\n", "a", "0", ":", ".", "\x00", "\xff", "<note/>", "<status/>", "<basic/>", "<contact/>", "<tuple/>", "<x>", "</x>", " id='u'"} {
			compare(t, s[:i]+c+s[i:])
			if i < len(s) {
				compare(t, s[:i]+c+s[i+1:])
			}
		}
	}
}

// anyElement writes an element from draws, in it what mostly stands there.
func anyElement(r *rand.Rand, name string, deep int) string {
	pick := func(l ...string) string { return l[r.IntN(len(l))] }
	if r.IntN(40) == 0 {
		name = pick("tuple", "status", "basic", "contact", "note", "x")
	}
	kids := []string{}
	text, attrs := "", ""
	switch name {
	case "tuple":
		attrs = " id='" + pick("t", "u", "v", "w", "x", "y", "z") + "'"
		kids = append(kids, "status")
		for _, kid := range []string{"contact", "note", "x"} {
			if r.IntN(3) == 0 {
				kids = append(kids, kid)
			}
		}
	case "status":
		kids = append(kids, "basic", pick("x", "y"))
	case "basic":
		text = pick("open", "closed", " open\n")
	case "contact":
		text = pick("sip:c", "c", "a b")
		attrs = pick("", " priority='0.5'", " priority='1'", " priority='0.125' x='1'")
	case "note":
		text = pick("n", "m", "", "&lt;")
	default:
		kids = append(kids, "note", "status")
	}
	if r.IntN(60) == 0 {
		attrs = pick("", " id=''", " priority='2'", " x='1'")
	}
	if r.IntN(60) == 0 && len(kids) > 0 {
		kids = append(kids, kids[0])
	}
	r.Shuffle(len(kids), func(i, j int) { kids[i], kids[j] = kids[j], kids[i] })
	for _, kid := range kids {
		if deep < 6 {
			text += anyElement(r, kid, deep+1)
		}
	}
	space := pick("", "", "p:", "q:")
	return "<" + space + name + attrs + ">" + text + "</" + space + name + ">"
}

func TestP14_4ParseMany(t *testing.T) {
	r := rand.New(rand.NewPCG(14, 4))
	parsed := 0
	for range 10000 {
		var s strings.Builder
		for range r.IntN(6) {
			s.WriteString(anyElement(r, []string{"tuple", "note", "x"}[r.IntN(3)], 1))
		}
		if compare(t, around(s.String())) {
			parsed++
		}
	}
	if parsed < 3000 || parsed > 9500 {
		t.Errorf("%d texts are documents", parsed)
	}
}

// TestP14_5ParseLong asks for what is parsed, but too long when it is printed.
func TestP14_5ParseLong(t *testing.T) {
	s := around(strings.Repeat("<note>"+strings.Repeat(">", 128)+"</note>", 16))
	d, err := pidf.Parse(s)
	if err != api.OK || len(d.Notes) != 16 {
		t.Fatal(err)
	}
	if backAgain(t, d) {
		t.Error("it is not too long")
	}
}

func TestRuleMemoryParse(t *testing.T) {
	s := strings.Clone("<presence entity='pres:alice@here'><tuple id='first'><status><basic>open</basic></status><contact>sip:here</contact><note>mine</note></tuple><tuple id='second'><status><basic>closed</basic></status><contact>sip:here</contact><note>mine</note></tuple><note>yours</note><note>yours</note></presence>")
	a, err := pidf.Parse(s)
	b, again := pidf.Parse(s)
	if err != api.OK || again != api.OK || !alike(a, b) || len(a.Tuples) != 2 || len(a.Notes) != 2 {
		t.Fatal(err, again)
	}
	given := append(wordsOf(a), s)
	for i, x := range given {
		for _, y := range append(wordsOf(b), given[i+1:]...) {
			if !apart(x, y) {
				t.Errorf("%q and %q share memory", x, y)
			}
		}
	}
	a.Tuples[0].ID, a.Notes[0] = "x", "y"
	if c, err := pidf.Parse(s); err != api.OK || !alike(b, c) || alike(a, c) {
		t.Errorf("answers share memory: %v, %v, %d", b, c, err)
	}
}
