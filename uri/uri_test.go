package uri_test

import (
	"fmt"
	"math"
	"reflect"
	"slices"
	"strings"
	"testing"

	"roster/api"
	"roster/uri"
)

// texts are all texts of up to so many signs of an alphabet.
func texts(alphabet string, most int) []string {
	all := []string{""}
	from := 0
	for range most {
		to := len(all)
		for _, s := range all[from:to] {
			for i := range len(alphabet) {
				all = append(all, s+alphabet[i:i+1])
			}
		}
		from = to
	}
	return all
}

// every are the 256 texts of one byte.
func every() []string {
	l := make([]string, 256)
	for i := range l {
		l[i] = string([]byte{byte(i)})
	}
	return l
}

// long is a text of n bytes.
func long(n int) string { return strings.Repeat("x", n) }

// many are n parameters.
func many(n int) []api.Param {
	var l []api.Param
	for i := range n {
		l = append(l, api.Param{Name: fmt.Sprintf("n%d", i), Value: "v", Has: true})
	}
	return l
}

// one is a list of one parameter with a Value.
func one(name, value string) []api.Param {
	return []api.Param{{Name: name, Value: value, Has: true}}
}

// bare is a list of parameters without Values.
func bare(names ...string) []api.Param {
	var l []api.Param
	for _, n := range names {
		l = append(l, api.Param{Name: n})
	}
	return l
}

// good is a URI that may be.
func good() api.URI {
	return api.URI{Scheme: "sip", User: "a", Host: "b.c", Port: 5060, Params: bare("lr"), Headers: one("y", "2")}
}

// like tells whether two URIs are one, nil and empty lists being alike.
func like(a, b api.URI) bool {
	if !slices.Equal(a.Params, b.Params) || !slices.Equal(a.Headers, b.Headers) {
		return false
	}
	a.Params, a.Headers, b.Params, b.Headers = nil, nil, nil, nil
	return reflect.DeepEqual(a, b)
}

func TestP3_1Scheme(t *testing.T) {
	for s, want := range map[string]bool{
		"sip": true, "sips": true, "pres": true,
		"": false, "s": false, "si": false, "sipss": false, "pre": false, "press": false,
		"SIP": false, "Sip": false, "SIPS": false, "Pres": false,
		"sip:": false, " sip": false, "sip ": false, "tel": false, "im": false, "http": false, "sip\x00": false,
	} {
		if got := uri.Scheme(s); got != want {
			t.Errorf("Scheme(%q) = %v", s, got)
		}
	}
}

func TestP3_2Check(t *testing.T) {
	for _, x := range []struct {
		name   string
		change func(u *api.URI)
		want   api.Errno
	}{
		{"as it is", func(u *api.URI) {}, api.OK},
		{"sips", func(u *api.URI) { u.Scheme = "sips" }, api.OK},
		{"pres", func(u *api.URI) { u.Scheme = "pres" }, api.OK},
		{"no scheme", func(u *api.URI) { u.Scheme = "" }, api.ErrScheme},
		{"another scheme", func(u *api.URI) { u.Scheme = "tel" }, api.ErrScheme},
		{"a scheme in capitals", func(u *api.URI) { u.Scheme = "SIP" }, api.ErrScheme},
		{"no user", func(u *api.URI) { u.User = "" }, api.OK},
		{"a user of any bytes", func(u *api.URI) { u.User = "\x00@:%é\xff" }, api.OK},
		{"a user of 64", func(u *api.URI) { u.User = long(64) }, api.OK},
		{"a user of 65", func(u *api.URI) { u.User = long(65) }, api.ErrUser},
		{"a user of 64 that is printed longer", func(u *api.URI) { u.User = strings.Repeat("@", 64) }, api.OK},
		{"no host", func(u *api.URI) { u.Host = "" }, api.ErrHost},
		{"a host in capitals", func(u *api.URI) { u.Host = "B.c" }, api.ErrHost},
		{"a host in brackets", func(u *api.URI) { u.Host = "[::1]" }, api.OK},
		{"a host of 64", func(u *api.URI) { u.Host = long(64) }, api.OK},
		{"a host of 65", func(u *api.URI) { u.Host = long(65) }, api.ErrHost},
		{"no port", func(u *api.URI) { u.Port = 0 }, api.OK},
		{"port 1", func(u *api.URI) { u.Port = 1 }, api.OK},
		{"the highest port", func(u *api.URI) { u.Port = 65535 }, api.OK},
		{"above it", func(u *api.URI) { u.Port = 65536 }, api.ErrPort},
		{"below 0", func(u *api.URI) { u.Port = -1 }, api.ErrPort},
		{"the greatest number", func(u *api.URI) { u.Port = math.MaxInt }, api.ErrPort},
		{"the least number", func(u *api.URI) { u.Port = math.MinInt }, api.ErrPort},
		{"a header without Has", func(u *api.URI) { u.Headers = bare("y") }, api.ErrParam},
		{"the last header without Has", func(u *api.URI) { u.Headers = append(one("y", ""), bare("z")...) }, api.ErrParam},
		{"one name as a parameter and as a header", func(u *api.URI) { u.Params, u.Headers = one("y", "1"), one("Y", "1") }, api.OK},
	} {
		u := good()
		x.change(&u)
		if got := uri.Check(u); got != x.want {
			t.Errorf("%s: %d", x.name, got)
		}
	}
	if got := uri.Check(api.URI{}); got != api.ErrScheme {
		t.Errorf("the zero URI: %d", got)
	}
	if got := uri.Check(api.URI{Scheme: "pres", Host: "a"}); got != api.OK {
		t.Errorf("a URI of a scheme and a host: %d", got)
	}
}

// lists are lists of parameters that all have a Value, and whether they may be.
var lists = []struct {
	name string
	l    []api.Param
	want bool
}{
	{"none", nil, true},
	{"an empty one", []api.Param{}, true},
	{"16", many(16), true},
	{"17", many(17), false},
	{"40", many(40), false},
	{"no name", one("", "1"), false},
	{"a name of 1", one("x", "1"), true},
	{"a name of 64", one(long(64), "1"), true},
	{"a name of 65", one(long(65), "1"), false},
	{"an empty value", one("x", ""), true},
	{"a value of 64", one("x", long(64)), true},
	{"a value of 65", one("x", long(65)), false},
	{"any bytes", one("\x00=;&?%\xff", "\x00=;&?%\xff"), true},
	{"twice", append(one("x", "1"), one("x", "2")...), false},
	{"twice but for capital letters", append(one("x-A", "1"), one("X-a", "1")...), false},
	{"twice, first and last", append(append(one("a", ""), one("b", "")...), one("A", "")...), false},
	{"one the beginning of another", append(one("x", "1"), one("xx", "1")...), true},
	{"no letters", append(one("[", "1"), one("{", "1")...), true},
	{"letters beyond ASCII", append(one("é", "1"), one("É", "1")...), true},
	{"a bad one behind good ones", append(many(3), api.Param{Has: true}), false},
	{"the same values", append(one("x", "v"), one("y", "v")...), true},
}

func TestP3_2CheckLists(t *testing.T) {
	for _, x := range lists {
		want := api.ErrParam
		if x.want {
			want = api.OK
		}
		u := good()
		u.Params = x.l
		if got := uri.Check(u); got != want {
			t.Errorf("%s, as parameters: %d", x.name, got)
		}
		u = good()
		u.Headers = x.l
		if got := uri.Check(u); got != want {
			t.Errorf("%s, as headers: %d", x.name, got)
		}
	}
	u := good()
	for _, x := range []struct {
		l    []api.Param
		want api.Errno
	}{
		{bare("x"), api.OK},
		{bare("x", "y", "Z"), api.OK},
		{bare("x", "X"), api.ErrParam},
		{bare(""), api.ErrParam},
		{bare(long(64)), api.OK},
		{bare(long(65)), api.ErrParam},
		{append(bare("x"), one("X", "1")...), api.ErrParam},
		{[]api.Param{{Name: "x", Value: "1"}}, api.ErrParam},
		{[]api.Param{{Name: "x", Value: long(64)}}, api.ErrParam},
	} {
		u.Params = x.l
		if got := uri.Check(u); got != x.want {
			t.Errorf("%v: %d", x.l, got)
		}
	}
}

func TestP3_2CheckFirst(t *testing.T) {
	u := api.URI{Scheme: "tel", User: long(65), Host: "-", Port: -1, Params: bare(""), Headers: bare("")}
	for _, x := range []struct {
		want api.Errno
		mend func()
	}{
		{api.ErrScheme, func() { u.Scheme = "sip" }},
		{api.ErrUser, func() { u.User = "" }},
		{api.ErrHost, func() { u.Host = "a" }},
		{api.ErrPort, func() { u.Port = 0 }},
		{api.ErrParam, func() { u.Params = nil }},
		{api.ErrParam, func() { u.Headers[0].Name = "x" }},
		{api.ErrParam, func() { u.Headers[0].Has = true }},
		{api.OK, func() {}},
	} {
		if got := uri.Check(u); got != x.want {
			t.Errorf("%v: %d, not %d", u, got, x.want)
		}
		x.mend()
	}
}
