package winfo_test

import (
	"fmt"
	"math/rand/v2"
	"regexp"
	"strconv"
	"strings"
	"testing"

	"roster/api"
	"roster/same"
	"roster/winfo"
	"roster/xml"
)

// around is a document of a@b with something in its list.
func around(s string) string { return begin + s + end }

// apiece is the watcher 1, and another its like.
const (
	apiece  = `<watcher id="w1" status="active" event="subscribe">sip:c@d</watcher>`
	another = `<watcher id="w2" status="pending" event="subscribe">sip:e@f</watcher>`
)

// changed is a document with a watcher, in which a text stands for the first of
// another.
func changed(t *testing.T, from, to string) string {
	t.Helper()
	s := around(apiece)
	if !strings.Contains(s, from) {
		t.Fatalf("no %q in %q", from, s)
	}
	return strings.Replace(s, from, to, 1)
}

func TestP15_3Parse(t *testing.T) {
	for _, x := range []struct {
		from, to string
		want     api.Info
	}{
		{"", "", of(the(1))},
		{"", first, of(the(1))},
		{"", " \n", of(the(1))},
		{"", "<?xml?>", of(the(1))},
		{"", "<?xml version='9' encoding='x'?>\r\n\t", of(the(1))},
		// Blanks, and other ways to write the same.
		{"<watcherinfo ", "<watcherinfo\r\n\t ", of(the(1))},
		{"version=", "version = ", of(the(1))},
		{`"0"`, "'0'", of(the(1))},
		{"<watcher-list", "\n <watcher-list", of(the(1))},
		{"<watcher ", " <watcher ", of(the(1))},
		{"sip:c@d", " sip:c@d\n", of(the(1))},
		{"</watcher></watcher-list></watcherinfo>", "</watcher \n> </watcher-list\t> </watcherinfo > \n", of(the(1))},
		{apiece, "", of()},
		{">" + apiece + "</watcher-list>", "/>", of()},
		{">" + apiece + "</watcher-list>", " />", of()},
		{apiece, "\n\n", of()},
		// What is said.
		{`"0"`, `"7"`, api.Info{Version: 7, Resource: "a@b", Watchers: counted(1)}},
		{`"0"`, `"2147483647"`, api.Info{Version: 1<<31 - 1, Resource: "a@b", Watchers: counted(1)}},
		{"sip:a@b", "sip:Bob%20@example.org", api.Info{Resource: "Bob%20@example.org", Watchers: counted(1)}},
		{"sip:a@b", "sip:a&amp;&apos;'@b", api.Info{Resource: "a&''@b", Watchers: counted(1)}},
		{"sip:a@b", "sip:sip@b", api.Info{Resource: "sip@b", Watchers: counted(1)}},
		{"w1", "w10", of(the(10))},
		{"w1", "w1099511627776", of(the(1 << 40))},
		{"active", "pending", of(stands("pending"))},
		{"active", "terminated", of(stands("terminated"))},
		{"subscribe", "%.!~*'`_-+Z9", of(came("%.!~*'`_-+Z9"))},
		{"subscribe", "&apos;", of(came("'"))},
		{"subscribe", long(64), of(came(long(64)))},
		{"sip:c@d", "sip:c&amp;d@[::1]", of(whose("c&d@[::1]"))},
		{"sip:c@d", "sip:a@b", of(whose("a@b"))},
		{"sip:c@d", "sip:" + long(64) + "@" + long(64), of(whose(long(64) + "@" + long(64)))},
		{apiece, apiece + another, of(the(1), api.Watcher{ID: 2, URI: "e@f", Status: "pending", Event: "subscribe"})},
		{apiece, another + " \n" + apiece, of(api.Watcher{ID: 2, URI: "e@f", Status: "pending", Event: "subscribe"}, the(1))},
	} {
		s := changed(t, x.from, x.to)
		if got, err := winfo.Parse(s); err != api.OK || !alike(got, x.want) {
			t.Errorf("Parse(%q) = %v, %d", s, got, err)
		}
	}
}

// TestP15_3ParseWrong asks for elements of which there is no document.
func TestP15_3ParseWrong(t *testing.T) {
	for _, x := range []struct{ from, to string }{
		// Another element, or another form of its name.
		{"<watcherinfo ", "<x><watcherinfo "}, {"</watcherinfo>", "<x/></watcherinfo>"}, {"</watcher-list>", "<x/></watcher-list>"}, {"<watcher-list", "<x/><watcher-list"}, {apiece, "<x/>" + apiece}, {"sip:c@d", "<x/>"},
		{end, `</watcher-list><watcher-list resource="sip:a@b" package="presence"/></watcherinfo>`}, {end, "</watcher-list>" + another + "</watcherinfo>"}, {apiece, strings.Replace(apiece, "sip:c@d", another, 1)}, {apiece, empty}, {"<watcher-list", apiece + "<watcher-list"},
		// An attribute that is gone, another, wrong, or in another order.
		{` xmlns="urn:ietf:params:xml:ns:watcherinfo"`, ""}, {` version="0"`, ""}, {` state="full"`, ""}, {` resource="sip:a@b"`, ""}, {` package="presence"`, ""}, {` id="w1"`, ""}, {` status="active"`, ""}, {` event="subscribe"`, ""},
		{"xmlns=", "xmlns:w="}, {"version=", "Version="}, {"state=", "State="}, {"resource=", "w:resource="}, {"package=", "Package="}, {"id=", "ID="}, {"status=", "w:status="}, {"event=", "Event="},
		{"urn:ietf:params:xml:ns:watcherinfo", "urn:ietf:params:xml:ns:pidf"}, {"urn:ietf:params:xml:ns:watcherinfo", "URN:ietf:params:xml:ns:watcherinfo"}, {"urn:ietf:params:xml:ns:watcherinfo", ""}, {"urn:ietf:params:xml:ns:watcherinfo", "urn:ietf:params:xml:ns:watcherinfo "},
		{"full", "partial"}, {"full", "Full"}, {"full", ""}, {"full", " full"}, {"presence", "presence.winfo"}, {"presence", "Presence"}, {"presence", ""}, {"presence", "presence "},
		{` state="full"`, ` state="full" x="1"`}, {` package="presence"`, ` package="presence" x="1"`}, {` event="subscribe"`, ` event="subscribe" x="1"`}, {` id="w1"`, ` x="1" id="w1"`},
		{`version="0" state="full"`, `state="full" version="0"`}, {`xmlns="urn:ietf:params:xml:ns:watcherinfo" version="0"`, `version="0" xmlns="urn:ietf:params:xml:ns:watcherinfo"`}, {`resource="sip:a@b" package="presence"`, `package="presence" resource="sip:a@b"`},
		{`id="w1" status="active"`, `status="active" id="w1"`}, {`status="active" event="subscribe"`, `event="subscribe" status="active"`}, {`status="active" event="subscribe"`, `status="subscribe" event="active"`},
		// Versions.
		{`"0"`, `""`}, {`"0"`, `"&quot;0"`}, {`"0"`, `"00"`}, {`"0"`, `"07"`}, {`"0"`, `"-0"`}, {`"0"`, `"+0"`}, {`"0"`, `"-1"`}, {`"0"`, `"x"`}, {`"0"`, `" 0"`}, {`"0"`, `"0 "`}, {`"0"`, `"0.0"`}, {`"0"`, `"0x0"`}, {`"0"`, `"1e1"`}, {`"0"`, `"2147483648"`}, {`"0"`, `"4294967296"`}, {`"0"`, `"18446744073709551616"`}, {`"0"`, `"` + strings.Repeat("0", 1000) + `"`},
		// Names.
		{"sip:a@b", "a@b"}, {"sip:a@b", "sips:a@b"}, {"sip:a@b", "SIP:a@b"}, {"sip:a@b", "pres:a@b"}, {"sip:a@b", "sip:sip:a@b"}, {"sip:a@b", "sip:"}, {"sip:a@b", ""}, {"sip:a@b", "sip"}, {"sip:a@b", " sip:a@b"}, {"sip:a@b", "sip:a@b "}, {"sip:a@b", "sip:a@B"}, {"sip:a@b", "sip:%61@b"}, {"sip:a@b", "sip:a@b;x"}, {"sip:a@b", "sip:a@b:5060"},
		{"sip:c@d", "c@d"}, {"sip:c@d", "sips:c@d"}, {"sip:c@d", "Sip:c@d"}, {"sip:c@d", "pres:c@d"}, {"sip:c@d", "sip:sip:c@d"}, {"sip:c@d", "sip:"}, {"sip:c@d", ""}, {"sip:c@d", " "}, {"sip:c@d", "sip: c@d"}, {"sip:c@d", "sip:c@D"}, {"sip:c@d", "sip:%63@d"}, {"sip:c@d", "sip:c@d;x"}, {"sip:c@d", "sip:c@d:1"}, {"sip:c@d", "&lt;sip:c@d&gt;"}, {"sip:c@d", "sip:c@d sip:e@f"},
		{"sip:a@b", "sip:" + long(65) + "@b"}, {"sip:c@d", "sip:" + long(65) + "@d"},
		// IDs.
		{"w1", ""}, {"w1", "w"}, {"w1", "1"}, {"w1", "W1"}, {"w1", "ww1"}, {"w1", "w0"}, {"w1", "w01"}, {"w1", "w-1"}, {"w1", "w+1"}, {"w1", "w 1"}, {"w1", " w1"}, {"w1", "w1 "}, {"w1", "w1x"}, {"w1", "x1"}, {"w1", "w1w1"}, {"w1", "w1099511627777"}, {"w1", "w18446744073709551617"},
		{apiece, apiece + apiece}, {apiece, apiece + strings.Replace(another, "w2", "w1", 1)}, {apiece, apiece + another + apiece},
		// Where they stand, and events.
		{"active", ""}, {"active", "Active"}, {"active", " active"}, {"active", "waiting"}, {"active", "activepending"},
		{"subscribe", ""}, {"subscribe", "a b"}, {"subscribe", "subscribe "}, {"subscribe", "é"}, {"subscribe", "a/b"}, {"subscribe", "&quot;"}, {"subscribe", "&amp;"}, {"subscribe", long(65)},
		// Texts where there is none.
		{apiece, "x"},
	} {
		s := changed(t, x.from, x.to)
		if x.from == "<watcherinfo " {
			s += "</x>"
		}
		if got, err := winfo.Parse(s); err != api.ErrInfo || !isZero(got) {
			t.Errorf("Parse(%q) = %v, %d", s, got, err)
		}
	}
	for _, s := range []string{
		"<watcherinfo/>", "<x/>", "<x>y</x>", "<watcherinfo version='0' state='full'><watcher-list resource='sip:a@b' package='presence'/></watcherinfo>", apiece, strings.TrimSuffix(begin, `<watcher-list resource="sip:a@b" package="presence">`) + "</watcherinfo>",
		strings.Replace(begin, `<watcher-list resource="sip:a@b" package="presence">`, "x</watcherinfo>", 1), strings.ReplaceAll(empty, "watcherinfo", "w:watcherinfo"), strings.Replace(strings.ReplaceAll(empty, "watcherinfo ", "Watcherinfo "), "</watcherinfo", "</Watcherinfo", 1),
		strings.ReplaceAll(around(apiece), "watcher-list", "watcherlist"), strings.ReplaceAll(around(apiece), "watcher-list", "w:watcher-list"), strings.ReplaceAll(around(apiece), "watcher-list", "watcher"),
		around(strings.ReplaceAll(apiece, "watcher", "Watcher")), around(strings.ReplaceAll(apiece, "watcher", "w:watcher")), around(strings.ReplaceAll(apiece, "watcher", "watcher-list")), around(strings.ReplaceAll(apiece, "watcher", "watchers")),
		around(apiece + strings.ReplaceAll(another, "watcher", "x")),
		strings.Replace(empty, "/></watcherinfo>", "/>"+apiece+"</watcherinfo>", 1), strings.Replace(empty, "/></watcherinfo>", "/><x/></watcherinfo>", 1),
		"<presence xmlns='urn:ietf:params:xml:ns:pidf' entity='pres:a@b'/>",
	} {
		if got, err := winfo.Parse(s); err != api.ErrInfo || !isZero(got) {
			t.Errorf("Parse(%q) = %v, %d", s, got, err)
		}
	}
}

// TestP15_3ParseXML asks for what is no XML at all, which is told first.
func TestP15_3ParseXML(t *testing.T) {
	for _, s := range []string{
		"", " ", "a", "<", "<a", "<watcherinfo", begin, begin + apiece, begin + end + "x", begin + "x" + apiece + end, begin + apiece + "x" + end, around("<x>&</x>"), around(strings.Replace(apiece, "sip:c@d", "sip:c&d@e", 1)), around(strings.Replace(apiece, "sip:c@d", "sip:c@d<x/>", 1)), around(strings.Replace(apiece, "sip:c@d", "\x00", 1)), around(strings.Replace(apiece, "</watcher>", "</watchers>", 1)),
		strings.Replace(empty, `"0"`, "0", 1), strings.Replace(empty, `"0"`, `"0" version="0"`, 1), strings.Replace(empty, " state", "state", 1), strings.Replace(empty, "full", "<", 1), around("<!-- -->"), "<?xml>" + empty, "x" + empty,
		around(strings.Repeat("<x/>", 199)), around("<a><a><a><a><a><a><a/></a></a></a></a></a></a>"), "<x>&</x>", "<x>\x7f</x>", empty + empty,
	} {
		if got, err := winfo.Parse(s); err != api.ErrXML || !isZero(got) {
			t.Errorf("Parse(%q) = %v, %d", s, got, err)
		}
	}
	for _, s := range []string{long(4097), empty + strings.Repeat(" ", 4096), "<x>" + long(4090) + "</x>", strings.Repeat("<watcher>", 10000), page(of(counted(198)...))} {
		if got, err := winfo.Parse(s); err != api.ErrLong || !isZero(got) {
			t.Errorf("Parse(%.40q .. of %d bytes) = %v, %d", s, len(s), got, err)
		}
	}
}

// TestP15_3ParseMost asks for texts that are short enough themselves, of
// documents of which Print just is, or just is not.
func TestP15_3ParseMost(t *testing.T) {
	for n := 4080; n <= 4096+len(first); n++ {
		d := sized(t, n)
		s := strings.TrimPrefix(page(d), first)
		if len(s) != n-len(first) {
			t.Fatalf("%d bytes", len(s))
		}
		want, wanted := d, api.OK
		if n > 4096 {
			want, wanted = api.Info{}, api.ErrInfo
		}
		for _, x := range []string{s, s + strings.Repeat(" ", 4096-len(s)), strings.ReplaceAll(s, `"`, "'")} {
			if got, err := winfo.Parse(x); err != wanted || !alike(got, want) {
				t.Errorf("of %d bytes, with %d when printed: %v, %d", len(x), n, got, err)
			}
		}
	}
	if got, err := winfo.Parse(empty + strings.Repeat(" ", 4096-len(empty))); err != api.OK || !alike(got, of()) {
		t.Errorf("of 4096 bytes: %v, %d", got, err)
	}
}

// The forms of elements, written as a line each.
var (
	infoForm    = regexp.MustCompile(`^0 watcherinfo xmlns="urn:ietf:params:xml:ns:watcherinfo" version="(0|[1-9][0-9]{0,9})" state="full" ""$`)
	listForm    = regexp.MustCompile(`^1 watcher-list resource="sip:(.*)" package="presence" ""$`)
	watcherForm = regexp.MustCompile("^2 watcher id=\"w([1-9][0-9]{0,12})\" status=\"(pending|active|terminated)\" event=\"([-.!%*_+`'~0-9a-zA-Z]{1,64})\" \"sip:(.*)\"$")
)

// lineOf writes an element as a line.
func lineOf(n api.Node) string {
	s := fmt.Sprintf("%d %s", n.Deep, n.Name)
	for _, p := range n.Attrs {
		s += fmt.Sprintf(" %s=%q", p.Name, p.Value)
	}
	return s + fmt.Sprintf(" %q", n.Text)
}

// match tells what the parts of a form stand for; where it is not so, empty
// texts, of which no document can be.
func match(form *regexp.Regexp, l []api.Node, at int) []string {
	if at < len(l) {
		if parts := form.FindStringSubmatch(lineOf(l[at])); parts != nil {
			return parts[1:]
		}
	}
	return make([]string, form.NumSubexp())
}

// reader reads a document in another way: by the forms of its elements.
func reader(s string) (api.Info, api.Errno) {
	l, err := xml.Parse(s)
	if err != api.OK {
		return api.Info{}, err
	}
	d := api.Info{}
	good := true
	number := func(s string, most int) int {
		n, err := strconv.Atoi(s)
		good = good && err == nil && n <= most
		return n
	}
	name := func(s string) string {
		_, err := same.Host(s)
		good = good && err == api.OK
		return s
	}
	d.Version = number(match(infoForm, l, 0)[0], 1<<31-1)
	d.Resource = name(match(listForm, l, 1)[0])
	times := map[int]int{}
	for i := 2; i < len(l); i++ {
		parts := match(watcherForm, l, i)
		w := api.Watcher{ID: number(parts[0], 1<<40), URI: name(parts[3]), Status: parts[1], Event: parts[2]}
		times[w.ID]++
		good = good && times[w.ID] == 1
		d.Watchers = append(d.Watchers, w)
	}
	if !good || len(page(d)) > 4096 {
		return api.Info{}, api.ErrInfo
	}
	return d, api.OK
}

// compare asks both readers, and tells whether the text is a document, and
// then whether it comes there and back.
func compare(t *testing.T, s string) bool {
	t.Helper()
	got, err := winfo.Parse(s)
	want, wanted := reader(s)
	if err != wanted || !alike(got, want) {
		t.Fatalf("Parse(%q) = %v, %d, not %v, %d", s, got, err, want, wanted)
	}
	if err != api.OK {
		return false
	}
	if !backAgain(t, got) {
		t.Fatalf("%q is parsed, but too long when it is printed", s)
	}
	return true
}

// texts are all texts of up to so many of some pieces.
func texts(most int, pieces ...string) []string {
	all := []string{""}
	from := 0
	for range most {
		to := len(all)
		for _, s := range all[from:to] {
			for _, p := range pieces {
				all = append(all, s+p)
			}
		}
		from = to
	}
	return all
}

func TestP15_3ParseAll(t *testing.T) {
	parsed := 0
	ask := func(s string) {
		if compare(t, s) {
			parsed++
		}
	}
	third := strings.Replace(another, "w2", "w3", 1)
	for _, s := range texts(5, apiece, another, third, " ", "<x/>", "<watcher/>") {
		ask(around(s))
	}
	for _, s := range texts(4, ` xmlns="urn:ietf:params:xml:ns:watcherinfo"`, ` version="5"`, ` state="full"`, ` x="1"`, " ") {
		ask("<watcherinfo" + s + `><watcher-list resource="sip:a@b" package="presence"/></watcherinfo>`)
	}
	for _, s := range texts(4, ` resource="sip:a@b"`, ` package="presence"`, ` x="1"`, " ", "\n") {
		ask(strings.Replace(empty, ` resource="sip:a@b" package="presence"`, s, 1))
	}
	for _, s := range texts(5, ` id="w1"`, ` status="active"`, ` event="subscribe"`, ` x="1"`, "\t") {
		ask(around("<watcher" + s + ">sip:c@d</watcher>"))
	}
	for _, s := range texts(5, "w", "0", "1", "9", " ", "-") {
		ask(around(strings.Replace(apiece, "w1", s, 1)))
		ask(strings.Replace(empty, `"0"`, `"`+s+`"`, 1))
	}
	for _, s := range texts(5, "sip:", "a", "@", "b", ";x", " ", "%20") {
		ask(around(strings.Replace(apiece, "sip:c@d", s, 1)))
		ask(strings.Replace(empty, "sip:a@b", s, 1))
	}
	if parsed < 700 {
		t.Errorf("only %d texts are documents", parsed)
	}
}

func TestP15_3ParseBytes(t *testing.T) {
	s := around(apiece)
	for i := range 256 {
		for _, c := range []string{one(i), "b" + one(i), one(i) + "b", "b" + one(i) + "b"} {
			for _, word := range []string{"watcherinfo", "xmlns", "urn:ietf", "version", "0", "full", "watcher-list", "resource", "sip:a@b", "a@b", "@b", "presence", "watcher id", "w1", "1", "active", "subscribe", "sip:c@d", "c@d", "@d"} {
				compare(t, strings.Replace(s, word, c, 1))
				compare(t, strings.Replace(s, word, word+c, 1))
				compare(t, strings.Replace(s, word, c+word, 1))
			}
		}
	}
}

// TestP15_3ParseNear asks for texts that are nearly documents: a byte is gone, changed, or too much.
func TestP15_3ParseNear(t *testing.T) {
	s := first + around(" "+apiece+"\n"+another)
	if !compare(t, s) {
		t.Fatalf("%q is no document", s)
	}
	for i := range len(s) + 1 {
		compare(t, s[:i])
		for _, c := range []string{"", "<", ">", "/", "'", "&", " ", "\n", "a", "0", ":", ".", "\x00", "\xff", "<x/>", "</x>", "<watcher/>", apiece, another, " id='w7'", "&amp;"} {
			compare(t, s[:i]+c+s[i:])
			if i < len(s) {
				compare(t, s[:i]+c+s[i+1:])
			}
		}
	}
}

// written writes a document from draws: in other ways than Print does, and now
// and then with a fault.
func written(r *rand.Rand) string {
	pick := func(l ...string) string { return l[r.IntN(len(l))] }
	s := strings.TrimPrefix(page(anyDocument(r)), pick("", first))
	if r.IntN(2) == 0 {
		s = strings.ReplaceAll(s, "><watcher", ">"+pick(" ", "\n", "\r\n\t")+"<watcher")
	}
	if r.IntN(2) == 0 && !strings.Contains(s, "'") {
		s = strings.ReplaceAll(s, `"`, "'")
	}
	if r.IntN(2) == 0 {
		at := r.IntN(len(s))
		s = s[:at] + pick("", " ", "0", "x", "sip:", "'") + s[at+r.IntN(2):]
	}
	return s
}

func TestP15_3ParseMany(t *testing.T) {
	r := rand.New(rand.NewPCG(15, 3))
	parsed := 0
	for range 10000 {
		if compare(t, written(r)) {
			parsed++
		}
	}
	if parsed < 3000 || parsed > 9000 {
		t.Errorf("%d texts are documents", parsed)
	}
}

func TestRuleMemoryParse(t *testing.T) {
	s := strings.Clone(around(apiece + another))
	a, err := winfo.Parse(s)
	b, again := winfo.Parse(s)
	if err != api.OK || again != api.OK || !alike(a, b) || len(a.Watchers) != 2 {
		t.Fatal(err, again)
	}
	given := append(wordsOf(a), s)
	for i, x := range given {
		for _, y := range append(wordsOf(b), given[i+1:]...) {
			if !apart(x, y) {
				t.Errorf("%q and %q share memory", x, y)
			}
		}
	}
	a.Watchers[0].ID = 9
	if c, err := winfo.Parse(s); err != api.OK || !alike(b, c) || alike(a, c) {
		t.Errorf("answers share memory: %v, %v, %d", b, c, err)
	}
}
