package addr_test

import (
	"reflect"
	"slices"
	"strings"
	"testing"
	"unsafe"

	"roster/addr"
	"roster/api"
	"roster/scan"
	"roster/uri"
)

// long is a text of n bytes.
func long(n int) string { return strings.Repeat("x", n) }

// with is a parameter with a Value.
func with(name, value string) api.Param { return api.Param{Name: name, Value: value, Has: true} }

// bare is a parameter without one.
func bare(name string) api.Param { return api.Param{Name: name} }

// list is a list of parameters.
func list(l ...api.Param) []api.Param { return l }

// counted are n parameters that may stand together.
func counted(n int) []api.Param {
	var l []api.Param
	for i := range n {
		l = append(l, bare("p"+scan.Digits(i)))
	}
	return l
}

// bob is a URI that may be.
func bob() api.URI { return api.URI{Scheme: "sip", User: "b", Host: "c"} }

// alike tells whether two addresses are one; nil and empty lists are alike.
func alike(a, b api.Addr) bool {
	return a.Display == b.Display && alikeURI(a.URI, b.URI) && slices.Equal(a.Params, b.Params)
}

// alikeURI tells whether two URIs are one.
func alikeURI(a, b api.URI) bool {
	return a.Scheme == b.Scheme && a.User == b.User && a.Host == b.Host && a.Port == b.Port &&
		slices.Equal(a.Params, b.Params) && slices.Equal(a.Headers, b.Headers)
}

// empty tells whether an address is the zero value.
func empty(a api.Addr) bool { return reflect.DeepEqual(a, api.Addr{}) }

// texts are all texts of up to so many of some pieces.
func texts(most int, pieces ...string) []string {
	all := []string{""}
	from := 0
	for range most {
		to := len(all)
		for _, s := range all[from:to] {
			for _, p := range pieces {
				all = append(all, s+p)
			}
		}
		from = to
	}
	return all
}

// apart tells whether no byte of two texts lies in one place.
func apart(a, b string) bool {
	if a == "" || b == "" {
		return true
	}
	x, y := uintptr(unsafe.Pointer(unsafe.StringData(a))), uintptr(unsafe.Pointer(unsafe.StringData(b)))
	return x+uintptr(len(a)) <= y || y+uintptr(len(b)) <= x
}

// wordsOf are all texts of an address.
func wordsOf(a api.Addr) []string {
	l := []string{a.Display, a.URI.Scheme, a.URI.User, a.URI.Host}
	for _, params := range [][]api.Param{a.URI.Params, a.URI.Headers, a.Params} {
		for _, p := range params {
			l = append(l, p.Name, p.Value)
		}
	}
	return l
}

func TestP5_3Check(t *testing.T) {
	wrong := list(with("", ""))
	for _, x := range []struct {
		a   api.Addr
		err api.Errno
	}{
		{api.Addr{URI: bob()}, api.OK},
		{api.Addr{URI: bob(), Params: []api.Param{}}, api.OK},
		{api.Addr{Display: "B \"\\\x01\xff", URI: bob(), Params: list(with("tag", "1"), bare("lr"))}, api.OK},
		{api.Addr{Display: long(64), URI: bob()}, api.OK},
		{api.Addr{Display: strings.Repeat("\"", 64), URI: bob()}, api.OK},
		{api.Addr{URI: api.URI{Scheme: "pres", Host: "c", Params: list(with("", ""))[:0]}, Params: counted(16)}, api.OK},
		{api.Addr{Display: long(65), URI: bob()}, api.ErrAddr},
		{api.Addr{Display: "a\nb", URI: bob()}, api.ErrAddr},
		{api.Addr{Display: "\r", URI: bob()}, api.ErrAddr},
		{api.Addr{Display: "a\x00", URI: bob()}, api.ErrAddr},
		{api.Addr{}, api.ErrScheme},
		{api.Addr{URI: api.URI{Scheme: "SIP", Host: "c"}}, api.ErrScheme},
		{api.Addr{URI: api.URI{Scheme: "sip", User: long(65), Host: "c"}}, api.ErrUser},
		{api.Addr{URI: api.URI{Scheme: "sip", Host: "C"}}, api.ErrHost},
		{api.Addr{URI: api.URI{Scheme: "sip", Host: "c", Port: 65536}}, api.ErrPort},
		{api.Addr{URI: api.URI{Scheme: "sip", Host: "c", Params: wrong}}, api.ErrParam},
		{api.Addr{URI: bob(), Params: wrong}, api.ErrParam},
		{api.Addr{URI: bob(), Params: counted(17)}, api.ErrMany},
		{api.Addr{URI: bob(), Params: append(counted(16), wrong...)}, api.ErrMany},
		// The first error is told.
		{api.Addr{Display: long(65), URI: api.URI{Scheme: "tel"}, Params: wrong}, api.ErrAddr},
		{api.Addr{Display: "\n", Params: counted(17)}, api.ErrAddr},
		{api.Addr{URI: api.URI{Scheme: "sip", Host: ""}, Params: counted(17)}, api.ErrHost},
		{api.Addr{URI: api.URI{Scheme: "sip", Host: "c", Params: wrong}, Params: counted(17)}, api.ErrParam},
	} {
		if err := addr.Check(x.a); err != x.err {
			t.Errorf("Check(%+v) = %d, not %d", x.a, err, x.err)
		}
		s, err := addr.Print(x.a)
		if err != x.err || (err != api.OK) != (s == "") {
			t.Errorf("Print(%+v) = %q, %d, not %d", x.a, s, err, x.err)
		}
	}
}

func TestP5_3CheckBytes(t *testing.T) {
	for i := range 256 {
		want := api.OK
		if i == 0 || i == '\n' || i == '\r' {
			want = api.ErrAddr
		}
		if err := addr.Check(api.Addr{Display: "a" + string([]byte{byte(i)}), URI: bob()}); err != want {
			t.Errorf("a name with the byte %d: %d", i, err)
		}
	}
}

func TestP5_3Print(t *testing.T) {
	for _, x := range []struct {
		a    api.Addr
		want string
	}{
		{api.Addr{URI: bob()}, "<sip:b@c>"},
		{api.Addr{Display: "Bob", URI: bob()}, `"Bob" <sip:b@c>`},
		{api.Addr{Display: " ", URI: bob()}, `" " <sip:b@c>`},
		{api.Addr{Display: `a"b\`, URI: bob()}, `"a\"b\\" <sip:b@c>`},
		{api.Addr{Display: "<é>", URI: bob(), Params: list(bare("lr"))}, `"<é>" <sip:b@c>;lr`},
		{api.Addr{URI: api.URI{Scheme: "sips", User: "<>", Host: "[::1]", Port: 5061, Params: list(with("x", "1")), Headers: list(with("y", "2"))}, Params: list(with("Tag", "a b"), with("e", ""), with("h", "[::A]"), bare("z"))},
			`<sips:%3C%3E@[::1]:5061;x=1?y=2>;Tag="a b";e="";h=[::A];z`},
	} {
		if got, err := addr.Print(x.a); got != x.want || err != api.OK {
			t.Errorf("Print(%+v) = %q, %d", x.a, got, err)
		}
	}
}

func TestP5_5Tag(t *testing.T) {
	for _, x := range []struct {
		l    []api.Param
		want string
	}{
		{nil, ""},
		{list(bare("x"), with("tags", "0"), with("ta", "0")), ""},
		{list(with("x", "0"), with("tag", "aB")), "aB"},
		{list(with("TaG", "c")), "c"},
		{list(bare("tag"), with("tag", "2")), ""},
		{list(with("tag", "1"), with("Tag", "2")), "1"},
		// Of what may not be, too, a tag is told.
		{append(counted(17), with("tag", "a\nb")), "a\nb"},
	} {
		a := api.Addr{Params: x.l}
		if got := addr.Tag(a); got != x.want {
			t.Errorf("Tag(%+v) = %q", a, got)
		}
	}
	tag := strings.Repeat("t", 9)
	if got := addr.Tag(api.Addr{Params: list(with("tag", tag))}); got != tag || !apart(got, tag) {
		t.Error("a tag that lies in its argument")
	}
}

// odd are texts that stand in names, values and users of addresses to be told
// there and back.
var odd = []string{"", "a", " ", " a ", "a  b", `"`, `\`, `\"`, `"a"`, ",", ";", "<", ">", "<a>", "=", "?", "@", "[", "[::1]", "[::A]", "[::1].", "A.b", "-a", "a-", "%", "%41", "a/b", "\t", "\x01", "\x7f", "\x80", "é", strings.Repeat("\"", 64), long(64)}

func TestP5_6PrintParse(t *testing.T) {
	var all []api.Addr
	for _, s := range odd {
		for _, v := range odd {
			all = append(all, api.Addr{Display: s, URI: api.URI{Scheme: "sip", User: v, Host: "c"}, Params: list(bare("lr"), with("tag", v), with("x", s))})
		}
		u := api.URI{Scheme: "pres", User: s, Host: "[::1]", Port: 9, Params: list(with("x"+s, s)), Headers: list(with("y", s))}
		if uri.Check(u) == api.OK {
			all = append(all, api.Addr{URI: u}, api.Addr{Display: s, URI: u, Params: counted(16)})
		}
	}
	for _, a := range all {
		s, err := addr.Print(a)
		if err != api.OK {
			t.Fatalf("Print(%+v): %d", a, err)
		}
		if got, err := addr.Parse(s); err != api.OK || !alike(got, a) {
			t.Fatalf("Parse(%q) = %+v, %d, not %+v", s, got, err, a)
		}
	}
	toldAsLists(t, all)
}

// toldAsLists prints addresses with commas between, and reads them as lists.
func toldAsLists(t *testing.T, all []api.Addr) {
	n := 1
	for len(all) >= n {
		var written []string
		for _, a := range all[:n] {
			s, _ := addr.Print(a)
			written = append(written, s)
		}
		for _, between := range []string{",", " ,\t"} {
			got, err := addr.List(strings.Join(written, between))
			if err != api.OK || !slices.EqualFunc(got, all[:n], alike) {
				t.Fatalf("List(%q) = %+v, %d", strings.Join(written, between), got, err)
			}
		}
		all = all[n:]
		n = n%api.MaxList + 1
	}
}

func TestP5_6Bytes(t *testing.T) {
	for i := range 256 {
		c := string([]byte{byte(i)})
		for _, a := range []api.Addr{
			{Display: c, URI: bob()},
			{Display: "a" + c + "a", URI: bob()},
			{URI: bob(), Params: list(with("x", c), with("y", c+c))},
			{URI: bob(), Params: list(with("x", "a"+c), bare("y"))},
		} {
			s, err := addr.Print(a)
			if err != api.OK {
				if i != 0 && i != '\n' && i != '\r' {
					t.Errorf("Print(%+v): %d", a, err)
				}
				continue
			}
			if got, err := addr.Parse(s); err != api.OK || !alike(got, a) {
				t.Errorf("Parse(%q) = %+v, %d", s, got, err)
			}
		}
	}
}

func TestP5_6ParsePrint(t *testing.T) {
	parsed := 0
	for _, s := range texts(6, "<", ">", `"`, `\`, ";", ",", " ", "=", "sip:b", "x") {
		a, err := addr.Parse(s)
		if err != api.OK {
			continue
		}
		parsed++
		p, err := addr.Print(a)
		if err != api.OK {
			t.Fatalf("%q is parsed as %+v, which can't be printed: %d", s, a, err)
		}
		if got, err := addr.Parse(p); err != api.OK || !alike(got, a) {
			t.Fatalf("%q is printed as %q, and parsed as %+v, %d", s, p, got, err)
		}
	}
	if parsed < 200 {
		t.Errorf("only %d texts are addresses", parsed)
	}
}

func TestRuleMemoryPrint(t *testing.T) {
	l := make([]api.Param, 2, 4)
	l[0], l[1] = with("tag", "[::1]"), bare("lr")
	spare := l[:4]
	spare[2] = with("kept", "kept")
	a := api.Addr{Display: "Bob", URI: api.URI{Scheme: "sip", Host: "c", Params: list(bare("x"))}, Params: l}
	s, _ := addr.Print(a)
	text, _ := addr.Text(l)
	for _, given := range wordsOf(a) {
		if !apart(s, given) || !apart(text, given) {
			t.Errorf("what is written shares memory with %q", given)
		}
	}
	if !apart(s, text) {
		t.Error("two answers share memory")
	}
	if spare[2] != with("kept", "kept") || spare[3] != (api.Param{}) || l[0] != with("tag", "[::1]") || l[1] != bare("lr") {
		t.Errorf("an argument was changed: %+v", spare)
	}
}
