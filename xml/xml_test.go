package xml_test

import (
	"math"
	"slices"
	"strings"
	"testing"
	"unsafe"

	"roster/api"
	"roster/scan"
	"roster/xml"
)

// long is a text of n bytes.
func long(n int) string { return strings.Repeat("x", n) }

// one is a text of one byte.
func one(i int) string { return string([]byte{byte(i)}) }

// with is an attribute.
func with(name, value string) api.Param { return api.Param{Name: name, Value: value, Has: true} }

// node is an element with attributes.
func node(deep int, name string, attrs ...api.Param) api.Node {
	return api.Node{Deep: deep, Name: name, Attrs: attrs}
}

// says is an element with a text.
func says(deep int, name, text string) api.Node { return api.Node{Deep: deep, Name: name, Text: text} }

// nodes is a list of elements.
func nodes(l ...api.Node) []api.Node { return l }

// deeps are elements of these depths.
func deeps(l ...int) []api.Node {
	var all []api.Node
	for _, deep := range l {
		all = append(all, node(deep, "e"))
	}
	return all
}

// counted are n attributes that may stand together.
func counted(n int) []api.Param {
	var l []api.Param
	for i := range n {
		l = append(l, with("p"+scan.Digits(i), "v"+scan.Digits(i)))
	}
	return l
}

// wide is a document of n elements.
func wide(n int) []api.Node {
	l := nodes(node(0, "a"))
	for range n - 1 {
		l = append(l, node(1, "b"))
	}
	return l[:n]
}

// chain is a document of n elements, each in the one ahead of it.
func chain(n int) []api.Node {
	var l []api.Node
	for i := range n {
		l = append(l, node(i, "c"))
	}
	return l
}

// alike tells whether two documents are one; nil and empty lists are alike.
func alike(a, b []api.Node) bool {
	return slices.EqualFunc(a, b, func(x, y api.Node) bool {
		return x.Deep == y.Deep && x.Name == y.Name && slices.Equal(x.Attrs, y.Attrs) && x.Text == y.Text
	})
}

// copied is a copy of elements, sharing no list with them.
func copied(l []api.Node) []api.Node {
	l = slices.Clone(l)
	for i := range l {
		l[i].Attrs = slices.Clone(l[i].Attrs)
	}
	return l
}

// texts are all texts of up to so many of some pieces.
func texts(most int, pieces ...string) []string {
	all := []string{""}
	from := 0
	for range most {
		to := len(all)
		for _, s := range all[from:to] {
			for _, p := range pieces {
				all = append(all, s+p)
			}
		}
		from = to
	}
	return all
}

// apart tells whether no byte of two texts lies in one place.
func apart(a, b string) bool {
	if a == "" || b == "" {
		return true
	}
	x, y := uintptr(unsafe.Pointer(unsafe.StringData(a))), uintptr(unsafe.Pointer(unsafe.StringData(b)))
	return x+uintptr(len(a)) <= y || y+uintptr(len(b)) <= x
}

// wordsOf are all texts of a document.
func wordsOf(nodes []api.Node) []string {
	var l []string
	for _, n := range nodes {
		l = append(l, n.Name, n.Text)
		for _, p := range n.Attrs {
			l = append(l, p.Name, p.Value)
		}
	}
	return l
}

// isBlank tells whether a byte is a blank here.
func isBlank(i int) bool { return i == 32 || i == 9 || i == 13 || i == 10 }

// isSign tells whether a byte is a sign that may be.
func isSign(i int) bool { return i >= 32 && i != 127 || isBlank(i) }

func TestP13_1Name(t *testing.T) {
	for _, s := range []string{"a", "Z", "_", "__", "a1", "a-", "a.", "a:", "a::b", "p:tuple", "_-.:09azAZ", "watcher-list", long(64), "_" + strings.Repeat("9", 63)} {
		if !xml.Name(s) {
			t.Errorf("%q is no name", s)
		}
	}
	for _, s := range []string{"", "1", "-", ".", ":", ":a", "-a", ".a", "9a", " a", "a ", "a b", "a\n", "a/b", "?xml", "!--", "a=", "a'", "a\"", "a&", "é", "aé", "a\xff", "a\x00", "a+", "a*", "a!", "a~", "a%41", long(65), long(5000)} {
		if xml.Name(s) {
			t.Errorf("%q is a name", s)
		}
	}
}

func TestP13_1NameBytes(t *testing.T) {
	for i := range 256 {
		first := i >= 'a' && i <= 'z' || i >= 'A' && i <= 'Z' || i == '_'
		later := first || i >= '0' && i <= '9' || i == '-' || i == '.' || i == ':'
		for s, want := range map[string]bool{
			one(i):             first,
			one(i) + "a":       first,
			"a" + one(i):       later,
			"_" + one(i) + "b": later,
			long(63) + one(i):  later,
		} {
			if got := xml.Name(s); got != want {
				t.Errorf("Name(%q) = %t", s, got)
			}
		}
	}
}

func TestP13_1Check(t *testing.T) {
	for _, l := range [][]api.Node{
		deeps(0),
		deeps(0, 1),
		deeps(0, 1, 1),
		deeps(0, 1, 2, 1),
		deeps(0, 1, 2, 3, 1, 2, 2, 3),
		deeps(0, 1, 2, 3, 4, 5, 6, 7, 7, 1),
		chain(8),
		wide(200),
		nodes(says(0, "a", "x")),
		nodes(says(0, "a", "x \t\r\n y")),
		nodes(says(0, "a", "<&>\"'")),
		nodes(says(0, "a", long(100000))),
		nodes(node(0, "a"), says(1, "b", "x"), says(1, "b", "y")),
		nodes(node(0, "a"), node(1, "b"), says(2, "c", "x"), says(1, "d", "y")),
		nodes(node(0, "a", with("b", ""))),
		nodes(node(0, "a", with("b", " \r\n\t<&>\"' "), with("B", long(100000)), with("a", "é"))),
		nodes(node(0, "a", counted(16)...)),
		nodes(node(0, "a", with(long(64), "1"))),
		nodes(node(0, long(64))),
		nodes(node(0, "a", with("x", "1")), node(1, "a", with("x", "1"))),
	} {
		if err := xml.Check(l); err != api.OK {
			t.Errorf("Check(%.300v) = %d", l, err)
		}
	}
}

// wrong are lists of elements that are no documents.
func wrong() [][]api.Node {
	return [][]api.Node{
		nil,
		{},
		deeps(1),
		deeps(-1),
		deeps(7),
		deeps(1, 2),
		deeps(math.MaxInt),
		deeps(math.MinInt),
		deeps(0, 0),
		deeps(0, 2),
		deeps(0, -1),
		deeps(0, 1, 0),
		deeps(0, 1, 3),
		deeps(0, 1, 2, 4),
		deeps(0, 1, 2, 1, 3),
		deeps(0, 1, 2, 1, 0),
		deeps(0, 8),
		deeps(0, math.MaxInt),
		deeps(0, math.MaxInt, math.MinInt),
		deeps(0, math.MinInt),
		deeps(0, 1, math.MinInt),
		chain(9),
		wide(201),
		wide(1000),
		append(chain(8), deeps(8)...),
		nodes(node(0, "")),
		nodes(node(0, "1")),
		nodes(node(0, "a b")),
		nodes(node(0, long(65))),
		nodes(node(0, "a"), node(1, "")),
		nodes(node(0, "a"), node(1, "b"), node(1, ":")),
		nodes(node(0, "a", counted(17)...)),
		nodes(node(0, "a", with("", "1"))),
		nodes(node(0, "a", with("1", "1"))),
		nodes(node(0, "a", with("b", "1"), with(long(65), "1"))),
		nodes(node(0, "a", with("b", "1"), with("b", "2"))),
		nodes(node(0, "a", with("b", "1"), with("c", "1"), with("b", "1"))),
		nodes(node(0, "a", api.Param{Name: "b"})),
		nodes(node(0, "a", api.Param{Name: "b", Value: "1"})),
		nodes(node(0, "a", with("b", "1"), api.Param{Name: "c", Value: "1"})),
		nodes(node(0, "a", with("b", "\x00"))),
		nodes(node(0, "a", with("b", "1"), with("c", "x\x7f"))),
		nodes(node(0, "a"), node(1, "b", with("c", "\x1f"))),
		nodes(says(0, "a", " ")),
		nodes(says(0, "a", " x")),
		nodes(says(0, "a", "x ")),
		nodes(says(0, "a", "\tx")),
		nodes(says(0, "a", "x\t")),
		nodes(says(0, "a", "\rx")),
		nodes(says(0, "a", "x\r")),
		nodes(says(0, "a", "\nx")),
		nodes(says(0, "a", "x\n")),
		nodes(says(0, "a", "x\x00y")),
		nodes(says(0, "a", "x\vy")),
		nodes(says(0, "a", "\x7f")),
		nodes(node(0, "a"), says(1, "b", "\x01")),
		nodes(says(0, "a", "x"), node(1, "b")),
		nodes(node(0, "a"), says(1, "b", "x"), node(2, "c")),
		nodes(node(0, "a"), says(1, "b", "x"), says(1, "c", "x"), says(2, "c", "x")),
	}
}

func TestP13_1CheckWrong(t *testing.T) {
	for _, l := range wrong() {
		if err := xml.Check(l); err != api.ErrXML {
			t.Errorf("Check(%.300v) = %d", l, err)
		}
	}
}

func TestP13_1CheckDeeps(t *testing.T) {
	for first := -2; first <= 9; first++ {
		for second := -2; second <= 9; second++ {
			for third := -2; third <= 9; third++ {
				want := api.ErrXML
				if first == 0 && second == 1 && (third == 1 || third == 2) {
					want = api.OK
				}
				if err := xml.Check(deeps(first, second, third)); err != want {
					t.Errorf("of the depths %d, %d, %d: %d", first, second, third, err)
				}
			}
		}
	}
	for last := range 8 {
		for deep := -2; deep <= 9; deep++ {
			want := api.ErrXML
			if deep >= 1 && deep <= last+1 && deep <= 7 {
				want = api.OK
			}
			if err := xml.Check(append(chain(last+1), deeps(deep)...)); err != want {
				t.Errorf("the depth %d behind %d: %d", deep, last, err)
			}
		}
	}
}

func TestP13_1CheckBytes(t *testing.T) {
	for i := range 256 {
		c := one(i)
		for _, x := range []struct {
			l  []api.Node
			ok bool
		}{
			{nodes(node(0, "a", with("b", c))), isSign(i)},
			{nodes(node(0, "a", with("b", "x"+c))), isSign(i)},
			{nodes(node(0, "a", with("b", c+"x"))), isSign(i)},
			{nodes(says(0, "a", "x"+c+"y")), isSign(i)},
			{nodes(says(0, "a", c)), isSign(i) && !isBlank(i)},
			{nodes(says(0, "a", "x"+c)), isSign(i) && !isBlank(i)},
			{nodes(says(0, "a", c+"x")), isSign(i) && !isBlank(i)},
			{nodes(node(0, "a"), says(1, "a", c+"x")), isSign(i) && !isBlank(i)},
		} {
			want := api.ErrXML
			if x.ok {
				want = api.OK
			}
			if err := xml.Check(x.l); err != want {
				t.Errorf("the byte %d in %v: %d", i, x.l, err)
			}
		}
	}
}

func TestP13_4Kids(t *testing.T) {
	tree := deeps(0, 1, 2, 3, 2, 1, 1, 2)
	for _, x := range []struct {
		l    []api.Node
		at   int
		want []int
	}{
		{tree, 0, []int{1, 5, 6}},
		{tree, 1, []int{2, 4}},
		{tree, 2, []int{3}},
		{tree, 3, nil},
		{tree, 4, nil},
		{tree, 5, nil},
		{tree, 6, []int{7}},
		{tree, 7, nil},
		{tree, 8, nil},
		{tree, -1, nil},
		{tree, math.MaxInt, nil},
		{tree, math.MinInt, nil},
		{tree[:6], 6, nil},
		{nil, 0, nil},
		{nil, -1, nil},
		{deeps(0), 0, nil},
		// Of what is no document, too, places are told.
		{deeps(0, 2, 1, 3, 2, 0, 1), 0, []int{2}},
		{deeps(0, 2, 1, 3, 2, 0, 1), 2, []int{4}},
		{deeps(0, 2, 1, 3, 2, 0, 1), 5, []int{6}},
		{deeps(5, 6, 7, 6, 5, 6), 0, []int{1, 3}},
		{deeps(-3, -2, -1, -2, -3, -2), 0, []int{1, 3}},
		{deeps(2, 1, 3), 0, nil},
		{deeps(1, 1, 2), 0, nil},
		{deeps(math.MaxInt, math.MinInt, math.MaxInt), 0, nil},
		{deeps(math.MinInt, math.MaxInt, math.MinInt+1), 0, []int{2}},
		{deeps(math.MaxInt-1, math.MaxInt, math.MaxInt), 0, []int{1, 2}},
	} {
		if got := xml.Kids(x.l, x.at); !slices.Equal(got, x.want) {
			t.Errorf("Kids(%v, %d) = %v, not %v", x.l, x.at, got, x.want)
		}
	}
	for at, kids := range xml.Kids(wide(200), 0) {
		if kids != at+1 {
			t.Fatalf("the element %d of many: %d", at, kids)
		}
	}
	if got := xml.Kids(wide(1000), 0); len(got) != 999 {
		t.Errorf("of 999 elements: %d", len(got))
	}
}

func TestP13_4Attr(t *testing.T) {
	n := node(0, "a", with("x", "1"), with("X", "2"), with("y", ""), with("x", "3"), api.Param{Name: "z", Value: "4"}, api.Param{Name: "n"}, with("", "5"), with("p:x", "6"))
	for _, x := range []struct {
		name, want string
		ok         bool
	}{
		{"x", "1", true},
		{"X", "2", true},
		{"y", "", true},
		{"z", "4", true},
		{"n", "", true},
		{"", "5", true},
		{"p:x", "6", true},
		{"Y", "", false},
		{"a", "", false},
		{"x ", "", false},
		{"p", "", false},
		{"xx", "", false},
	} {
		if got, ok := xml.Attr(n, x.name); got != x.want || ok != x.ok {
			t.Errorf("Attr(%q) = %q, %t", x.name, got, ok)
		}
	}
	for _, name := range []string{"", "x"} {
		if got, ok := xml.Attr(api.Node{}, name); got != "" || ok {
			t.Errorf("Attr(%q) of none = %q, %t", name, got, ok)
		}
	}
}

func TestP13_4Local(t *testing.T) {
	for name, want := range map[string]string{
		"":        "",
		"a":       "a",
		"p:a":     "a",
		"p:a:b":   "a:b",
		":":       "",
		"::":      ":",
		":a":      "a",
		"a:":      "",
		"a b":     "a b",
		"é:\xff":  "\xff",
		"a.b-c_d": "a.b-c_d",
	} {
		if got := xml.Local(name); got != want {
			t.Errorf("Local(%q) = %q", name, got)
		}
	}
}

func TestRuleMemoryAsked(t *testing.T) {
	word := strings.Repeat("w", 9)
	if got, _ := xml.Attr(node(0, "a", with("x", word)), "x"); got != word || !apart(got, word) {
		t.Error("a value that lies in its argument")
	}
	if got := xml.Local(word); got != word || !apart(got, word) {
		t.Error("a whole name that lies in its argument")
	}
	name := "p:" + word
	if got := xml.Local(name); got != word || !apart(got, name) {
		t.Error("a part of a name that lies in its argument")
	}
	tree := deeps(0, 1, 1)
	got, again := xml.Kids(tree, 0), xml.Kids(tree, 0)
	got[0] = 7
	if !slices.Equal(again, []int{1, 2}) || !slices.Equal(xml.Kids(tree, 0), []int{1, 2}) {
		t.Error("places that share memory")
	}
}

// TestRuleMemoryKept asks whether what is handed in stays as it was, its spare room included.
func TestRuleMemoryKept(t *testing.T) {
	attrs := append(counted(2), with("spare", "1"), with("room", "2"))
	whole := nodes(node(0, "a", attrs[:2]...), node(1, "b"), says(1, "c", "x < y"), node(5, "spare"), node(-1, "room"))
	whole[0].Attrs = attrs[:2]
	before, beside := copied(whole), slices.Clone(attrs)
	l := whole[:3]
	if err := xml.Check(l); err != api.OK {
		t.Fatal(err)
	}
	if _, err := xml.Print(l); err != api.OK {
		t.Fatal(err)
	}
	xml.Kids(l, 0)
	xml.Attr(l[0], "p1")
	xml.Attr(l[0], "spare")
	if !alike(whole, before) || !slices.Equal(attrs, beside) {
		t.Errorf("changed: %v, %v", whole, attrs)
	}
}
