package same_test

import (
	"reflect"
	"slices"
	"strings"
	"testing"
	"unsafe"

	"roster/api"
	"roster/same"
	"roster/uri"
)

// long is a text of n bytes.
func long(n int) string { return strings.Repeat("x", n) }

// with is a parameter with a Value.
func with(name, value string) api.Param { return api.Param{Name: name, Value: value, Has: true} }

// bare is a parameter without one.
func bare(name string) api.Param { return api.Param{Name: name} }

// list is a list of parameters.
func list(l ...api.Param) []api.Param { return l }

// read is a URI that may be, parsed.
func read(t *testing.T, s string) api.URI {
	t.Helper()
	u, err := uri.Parse(s)
	if err != api.OK {
		t.Fatalf("Parse(%q): %d", s, err)
	}
	return u
}

// apart tells whether no byte of two texts lies in one place.
func apart(a, b string) bool {
	if a == "" || b == "" {
		return true
	}
	x, y := uintptr(unsafe.Pointer(unsafe.StringData(a))), uintptr(unsafe.Pointer(unsafe.StringData(b)))
	return x+uintptr(len(a)) <= y || y+uintptr(len(b)) <= x
}

// copied is a URI that shares no list with another.
func copied(u api.URI) api.URI {
	u.Params, u.Headers = slices.Clone(u.Params), slices.Clone(u.Headers)
	return u
}

func TestP4_1Value(t *testing.T) {
	l := list(with("x", "1"), bare("lr"), with("Tag", "aB"), with("e", ""), with("X", "2"), with("tag", "c"), with("", "none"), with("\xff", "byte"), with("É", "big"))
	for _, x := range []struct {
		name  string
		value string
		found bool
	}{
		{"x", "1", true},
		{"X", "1", true},
		{"tag", "aB", true},
		{"TAG", "aB", true},
		{"lr", "", true},
		{"LR", "", true},
		{"e", "", true},
		{"", "none", true},
		{"\xff", "byte", true},
		{"É", "big", true},
		// Capital letters are those of ASCII alone.
		{"é", "", false},
		{"y", "", false},
		{"ta", "", false},
		{"tags", "", false},
		{" x", "", false},
		{"x ", "", false},
		{"%78", "", false},
		{long(1 << 16), "", false},
	} {
		value, found := same.Value(l, x.name)
		if value != x.value || found != x.found {
			t.Errorf("Value of %q = %q, %v", x.name, value, found)
		}
	}
}

func TestP4_1ValueOfNothing(t *testing.T) {
	for _, l := range [][]api.Param{nil, {}} {
		for _, name := range []string{"", "x"} {
			if value, found := same.Value(l, name); value != "" || found {
				t.Errorf("Value of %q in %v = %q, %v", name, l, value, found)
			}
		}
	}
}

func TestP4_1ValueOfWhatMayNotBe(t *testing.T) {
	// The list need not be one that may be: what is asked for is the first of a name.
	l := make([]api.Param, 100)
	for i := range l {
		l[i] = bare("a")
	}
	l = append(l, api.Param{Name: long(1000), Value: long(5000)}, with(long(1000), "2"))
	if value, found := same.Value(l, strings.ToUpper(long(1000))); value != long(5000) || !found {
		t.Errorf("%d bytes, %v", len(value), found)
	}
}

func TestP4_1ValueFoldsLettersAlone(t *testing.T) {
	for i := range 256 {
		for j := range 256 {
			a, b := string([]byte{'n', byte(i)}), string([]byte{'N', byte(j)})
			_, found := same.Value(list(with(a, "v")), b)
			if found != (small(a) == small(b)) {
				t.Errorf("%q and %q: %v", a, b, found)
			}
		}
	}
}

func TestP4_1ValueNewMemory(t *testing.T) {
	l := list(with(strings.Clone("name"), strings.Clone("value")), bare("z"))
	before := slices.Clone(l)
	value, found := same.Value(l[:1], "NAME")
	if value != "value" || !found {
		t.Fatal(value, found)
	}
	if !apart(value, l[0].Value) {
		t.Error("the answer lies in what was handed in")
	}
	if again, _ := same.Value(l[:1], "NAME"); !apart(value, again) {
		t.Error("two answers share memory")
	}
	if !slices.Equal(l, before) {
		t.Errorf("the list is now %v", l)
	}
}

// pairs are URIs that may be, and whether they are one.
var pairs = []struct {
	a, b string
	want bool
}{
	{"sip:a@b", "sip:a@b", true},
	{"SIP:a@B.c", "sip:a@b.C", true},
	{"sip:%61%40@b", "sip:a%40@b", true},
	{"sip:b", "sip:b", true},
	{"sip:[::A]:1", "sip:[::a]:01", true},

	{"sip:a@b", "sips:a@b", false},
	{"sip:a@b", "pres:a@b", false},
	{"sip:a@b", "sip:A@b", false},
	{"sip:a@b", "sip:c@b", false},
	{"sip:a@b", "sip:b", false},
	{"sip:a@b", "sip:a@c", false},
	{"sip:a@b", "sip:a@b.b", false},
	{"sip:a@[::1]", "sip:a@[:::1]", false},
	{"sip:a@b", "sip:a@b:5060", false},
	{"sip:a@b:5060", "sip:a@b:5061", false},
	{"sips:a@b", "sips:a@b:5061", false},

	{"sip:a@b;x=1", "sip:a@b", true},
	{"sip:a@b;x=1", "sip:a@b;y=2", true},
	{"sip:a@b;x=1;y=2", "sip:a@b;Y=2", true},
	{"sip:a@b;x=1;y=2", "sip:a@b;y=2;x=1", true},
	{"sip:a@b;x=aB", "sip:a@b;X=Ab", true},
	{"sip:a@b;lr", "sip:a@b;LR", true},
	{"sip:a@b;%78=%31", "sip:a@b;x=1", true},
	{"sip:a@b;x=1", "sip:a@b;x=2", false},
	{"sip:a@b;x=1", "sip:a@b;x=11", false},
	{"sip:a@b;x=1;y=2", "sip:a@b;y=1;x=2", false},
	{"sip:a@b;z;x=1", "sip:a@b;y;X=2", false},
	{"sip:a@b;x=%C3%A9", "sip:a@b;x=%C3%89", false},
	{"sip:a@b;x", "sip:a@b;x=", false},
	{"sip:a@b;x", "sip:a@b;x=1", false},
	{"sip:a@b;transport=tcp", "sip:a@b", true},
	{"sip:a@b;transport=tcp", "sip:a@b;transport=udp", false},
	{"sip:a@b;users=ip", "sip:a@b", true},
	{"sip:a@b;use=ip", "sip:a@b", true},
	{"sip:a@b;method%20=x", "sip:a@b", true},
	{"sip:a@b;x=user", "sip:a@b", true},

	{"sip:a@b?x=1&y=2", "sip:a@b?y=2&x=1", true},
	{"sip:a@b?X=1", "sip:a@b?x=1", true},
	{"sip:a@b?x=", "sip:a@b?x=", true},
	{"sip:a@b?x=a", "sip:a@b?x=A", false},
	{"sip:a@b?x=1", "sip:a@b", false},
	{"sip:a@b?x=", "sip:a@b", false},
	{"sip:a@b?x=1", "sip:a@b?y=1", false},
	{"sip:a@b?x=1", "sip:a@b?x=2", false},
	{"sip:a@b?x=1&y=2", "sip:a@b?x=1", false},
	{"sip:a@b?x=1&y=2", "sip:a@b?x=2&y=1", false},
	{"sip:a@b?user=1", "sip:a@b?USER=1", true},
	// A parameter is no header.
	{"sip:a@b;x=1", "sip:a@b?x=1", false},
	{"sip:a@b;user=1?x=1", "sip:a@b;x=1?user=1", false},
	{"sip:a@b;x=1?x=1", "sip:a@b?x=1", true},
}

func TestP4_2Equal(t *testing.T) {
	for _, x := range pairs {
		a, b := read(t, x.a), read(t, x.b)
		if got := same.Equal(a, b); got != x.want {
			t.Errorf("Equal(%s, %s) = %v", x.a, x.b, got)
		}
		if got := same.Equal(b, a); got != x.want {
			t.Errorf("Equal(%s, %s) = %v", x.b, x.a, got)
		}
	}
}

func TestP4_2EqualBinding(t *testing.T) {
	for _, name := range []string{"user", "ttl", "method", "maddr", "USER", "Ttl", "mEthod", "MADDR"} {
		plain := read(t, "sip:a@b")
		told := read(t, "sip:a@b;x=1;"+name+"=v")
		if same.Equal(plain, told) || same.Equal(told, plain) {
			t.Errorf("without %s it is one", name)
		}
		if other := read(t, "sip:a@b;"+strings.ToUpper(name)+"=V"); !same.Equal(other, told) || !same.Equal(told, other) {
			t.Errorf("with %s twice it is not one", name)
		}
		if other := read(t, "sip:a@b;"+name+"=w"); same.Equal(other, told) || same.Equal(told, other) {
			t.Errorf("with two values of %s it is one", name)
		}
		if other := read(t, "sip:a@b;"+name); same.Equal(other, told) || same.Equal(other, plain) || same.Equal(plain, other) {
			t.Errorf("%s without a value is one with others", name)
		}
	}
}

func TestP4_2EqualOfWhatMayNotBe(t *testing.T) {
	for name, change := range map[string]func(*api.URI){
		"nothing":                        func(u *api.URI) { *u = api.URI{} },
		"a scheme in capital letters":    func(u *api.URI) { u.Scheme = "SIP" },
		"another scheme":                 func(u *api.URI) { u.Scheme = "tel" },
		"a long user":                    func(u *api.URI) { u.User = long(65) },
		"no host":                        func(u *api.URI) { u.Host = "" },
		"a host in capital letters":      func(u *api.URI) { u.Host = "B" },
		"a port below 0":                 func(u *api.URI) { u.Port = -1 },
		"a high port":                    func(u *api.URI) { u.Port = 65536 },
		"a parameter twice":              func(u *api.URI) { u.Params = list(with("x", "1"), with("X", "1")) },
		"a parameter without a name":     func(u *api.URI) { u.Params = list(with("", "1")) },
		"a Value without Has":            func(u *api.URI) { u.Params = list(api.Param{Name: "x", Value: "1"}) },
		"a long Value":                   func(u *api.URI) { u.Params = list(with("x", long(65))) },
		"17 parameters":                  func(u *api.URI) { u.Params = numbered(17) },
		"a header without Has":           func(u *api.URI) { u.Headers = list(bare("x")) },
		"a header twice":                 func(u *api.URI) { u.Headers = list(with("x", "1"), with("x", "1")) },
		"17 headers":                     func(u *api.URI) { u.Headers = numbered(17) },
		"a header of a name of 65 bytes": func(u *api.URI) { u.Headers = list(with(long(65), "1")) },
	} {
		good := api.URI{Scheme: "sip", User: "a", Host: "b"}
		bad := copied(good)
		change(&bad)
		if same.Equal(bad, good) || same.Equal(good, bad) || same.Equal(bad, bad) {
			t.Errorf("with %s it is one with something", name)
		}
	}
}

func TestP4_2EqualLeavesItsArguments(t *testing.T) {
	a := api.URI{Scheme: "sip", User: "A", Host: "b", Params: append(make([]api.Param, 0, 8), with("X", "V"), bare("Lr")), Headers: list(with("Y", "W"))}
	b := api.URI{Scheme: "sip", User: "A", Host: "b", Params: list(bare("lR"), with("x", "v")), Headers: list(with("y", "W"))}
	spare := a.Params[:8]
	a0, b0, spare0 := copied(a), copied(b), slices.Clone(spare)
	if !same.Equal(a, b) {
		t.Error("they are one")
	}
	if !reflect.DeepEqual(a, a0) || !reflect.DeepEqual(b, b0) || !slices.Equal(spare, spare0) {
		t.Errorf("they are now %v and %v", a, b)
	}
}

// numbered are n parameters.
func numbered(n int) []api.Param {
	var l []api.Param
	for i := range n {
		l = append(l, with("n"+string(rune('a'+i)), "v"))
	}
	return l
}

// small is a text without capital letters.
func small(s string) string {
	b := []byte(s)
	for i, c := range b {
		if c >= 'A' && c <= 'Z' {
			b[i] = c | 32
		}
	}
	return string(b)
}

// joined says P4.2 of lists once more: all names of both, each looked up in both.
func joined(a, b []api.Param, fold func(string) string, left func(string) bool) bool {
	first, second := map[string]api.Param{}, map[string]api.Param{}
	for _, p := range a {
		first[small(p.Name)] = p
	}
	for _, p := range b {
		second[small(p.Name)] = p
	}
	for _, p := range slices.Concat(a, b) {
		name := small(p.Name)
		x, inFirst := first[name]
		y, inSecond := second[name]
		if inFirst && inSecond {
			if x.Has != y.Has || fold(x.Value) != fold(y.Value) {
				return false
			}
		} else if !left(name) {
			return false
		}
	}
	return true
}

// one says P4.2 once more, of URIs that may be.
func one(a, b api.URI) bool {
	kept := " user ttl method maddr "
	return a.Scheme == b.Scheme && a.User == b.User && a.Host == b.Host && a.Port == b.Port &&
		joined(a.Params, b.Params, small, func(n string) bool { return !strings.Contains(kept, " "+n+" ") }) &&
		joined(a.Headers, b.Headers, func(s string) string { return s }, func(string) bool { return false })
}

// lists are lists of up to two parameters, no two of one name.
func lists(l []api.Param) [][]api.Param {
	all := [][]api.Param{nil}
	for _, p := range l {
		all = append(all, list(p))
		for _, q := range l {
			if small(p.Name) != small(q.Name) {
				all = append(all, list(p, q))
			}
		}
	}
	return all
}

// uris are URIs that may be, many of them one with others.
func uris() []api.URI {
	var l []api.URI
	for i, params := range lists(list(bare("x"), with("x", ""), with("X", "A"), with("x", "a"), with("y", "a"), with("Ttl", "A"), with("ttl", "a"), bare("user"))) {
		l = append(l, api.URI{Scheme: "sip", User: "a", Host: "b", Params: params})
		if i%4 == 0 {
			l = append(l, api.URI{Scheme: "sip", User: "a", Host: "b", Params: params, Headers: list(with("x", "a"))})
		}
	}
	for i, headers := range lists(list(with("x", ""), with("X", "A"), with("x", "a"), with("y", "a"), with("user", "A"))) {
		l = append(l, api.URI{Scheme: "sip", User: "a", Host: "b", Headers: headers})
		if i%4 == 0 {
			l = append(l, api.URI{Scheme: "sip", User: "a", Host: "b", Headers: headers, Params: list(with("x", "A"))})
		}
	}
	for _, scheme := range []string{"sip", "sips", "pres"} {
		for _, user := range []string{"", "a", "A", "%41", " ", "\xff"} {
			for _, host := range []string{"b", "b.c", "[::1]"} {
				for _, port := range []int{0, 1, 5060, 65535} {
					l = append(l, api.URI{Scheme: scheme, User: user, Host: host, Port: port})
				}
			}
		}
	}
	return l
}

func TestP4_2EqualAll(t *testing.T) {
	l := uris()
	alike := 0
	for _, a := range l {
		for _, b := range l {
			got := same.Equal(a, b)
			if got != one(a, b) {
				t.Fatalf("Equal(%v, %v) = %v", a, b, got)
			}
			if got {
				alike++
			}
		}
	}
	if alike < 2*len(l) || alike > len(l)*len(l)/2 {
		t.Errorf("of %d, %d pairs are one: the URIs tell too little", len(l), alike)
	}
}

func TestP4_4Itself(t *testing.T) {
	full := api.URI{Scheme: "sips", User: long(64), Host: long(64), Port: 65535, Params: numbered(16), Headers: numbered(16)}
	for _, u := range append(uris(), full) {
		if !same.Equal(u, u) || !same.Equal(u, copied(u)) {
			t.Errorf("%v is not one with itself", u)
		}
	}
}

func TestP4_4Order(t *testing.T) {
	l := uris()
	for _, a := range l {
		turned := copied(a)
		slices.Reverse(turned.Params)
		slices.Reverse(turned.Headers)
		for _, b := range l {
			got := same.Equal(a, b)
			if same.Equal(b, a) != got || same.Equal(turned, b) != got || same.Equal(b, turned) != got {
				t.Fatalf("%v and %v are one in some order alone", a, b)
			}
		}
	}
	full := api.URI{Scheme: "sip", Host: "b", Params: numbered(16), Headers: numbered(16)}
	turned := copied(full)
	slices.Reverse(turned.Params)
	slices.Reverse(turned.Headers)
	if !same.Equal(full, turned) {
		t.Error("16 parameters turned round are others")
	}
}

func TestP4_4PrintedAlike(t *testing.T) {
	var l []api.URI
	var printed []string
	for _, u := range uris() {
		if len(u.Params)+len(u.Headers) > 0 {
			continue
		}
		s, err := uri.Print(u)
		if err != api.OK {
			t.Fatal(u, err)
		}
		l, printed = append(l, u), append(printed, s)
	}
	for i, a := range l {
		for j, b := range l {
			if same.Equal(a, b) != (printed[i] == printed[j]) {
				t.Errorf("%s and %s", printed[i], printed[j])
			}
		}
	}
}
