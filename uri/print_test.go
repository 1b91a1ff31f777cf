package uri_test

import (
	"slices"
	"strings"
	"testing"

	"roster/api"
	"roster/uri"
)

func TestP3_3Print(t *testing.T) {
	for _, x := range []struct {
		u    api.URI
		want string
	}{
		{api.URI{Scheme: "sip", Host: "a"}, "sip:a"},
		{api.URI{Scheme: "sips", Host: "a.b", Port: 1}, "sips:a.b:1"},
		{api.URI{Scheme: "pres", User: "a", Host: "b", Port: 65535}, "pres:a@b:65535"},
		{api.URI{Scheme: "sip", User: "a b", Host: "[::1]", Port: 5070, Params: append(bare("lr"), one("x", "1")...), Headers: one("y", "2")}, "sip:a%20b@[::1]:5070;lr;x=1?y=2"},
		{api.URI{Scheme: "sip", Host: "a", Headers: one("y", "2")}, "sip:a?y=2"},
		{api.URI{Scheme: "sip", Host: "a", Headers: append(append(one("y", "2"), one("z", "")...), one("Q", "3")...)}, "sip:a?y=2&z=&Q=3"},
		{api.URI{Scheme: "sip", Host: "a", Params: append(one("x", ""), bare("Y")...)}, "sip:a;x=;Y"},
		{api.URI{Scheme: "sip", Host: "a", Params: bare("a;b", "c=d"), Headers: one("e&f", "g=h")}, "sip:a;a%3Bb;c%3Dd?e%26f=g%3Dh"},
		{api.URI{Scheme: "sip", User: "é%\x00", Host: "a", Params: one("é%\x00", "\n@"), Headers: one("\xff", " ")}, "sip:%C3%A9%25%00@a;%C3%A9%25%00=%0A%40?%FF=%20"},
		{api.URI{Scheme: "sip", User: strings.Repeat("@", 64), Host: "a"}, "sip:" + strings.Repeat("%40", 64) + "@a"},
	} {
		if got, err := uri.Print(x.u); got != x.want || err != api.OK {
			t.Errorf("Print(%v) = %q, %d", x.u, got, err)
		}
	}
}

// plain are the bytes that stand for themselves everywhere.
const plain = "0123456789abcdefghijklmnopqrstuvwxyzABCDEFGHIJKLMNOPQRSTUVWXYZ-_.!~*'()"

// kinds are the texts of a URI, each with the signs that the chapter lists for it.
var kinds = []struct {
	name  string
	signs string
	make  func(s string) api.URI
	// ahead and behind are what is printed around the text.
	ahead, behind string
	err           api.Errno
}{
	{"user", "&=+$,;?/", func(s string) api.URI { return api.URI{Scheme: "sip", User: s, Host: "h"} }, "sip:", "@h", api.ErrUser},
	{"name of a parameter", "[]/:&+$", func(s string) api.URI { return api.URI{Scheme: "sip", Host: "h", Params: bare(s)} }, "sip:h;", "", api.ErrParam},
	{"name of a parameter with a value", "[]/:&+$", func(s string) api.URI { return api.URI{Scheme: "sip", Host: "h", Params: one(s, "v")} }, "sip:h;", "=v", api.ErrParam},
	{"value of a parameter", "[]/:&+$", func(s string) api.URI { return api.URI{Scheme: "sip", Host: "h", Params: one("x", s)} }, "sip:h;x=", "", api.ErrParam},
	{"name of a header", "[]/?:+$", func(s string) api.URI { return api.URI{Scheme: "sip", Host: "h", Headers: one(s, "v")} }, "sip:h?", "=v", api.ErrParam},
	{"value of a header", "[]/?:+$", func(s string) api.URI { return api.URI{Scheme: "sip", Host: "h", Headers: one("x", s)} }, "sip:h?x=", "", api.ErrParam},
	{"value of another header", "[]/?:+$", func(s string) api.URI {
		return api.URI{Scheme: "sip", Host: "h", Headers: append(one("x", ""), one("y", s)...)}
	}, "sip:h?x=&y=", "", api.ErrParam},
}

const hexes = "0123456789ABCDEF"

// coded is a byte as an escape.
func coded(c byte) string { return "%" + hexes[c/16:c/16+1] + hexes[c%16:c%16+1] }

func TestP3_3PrintSigns(t *testing.T) {
	for _, k := range kinds {
		for _, c := range every() {
			want := k.ahead + "a" + coded(c[0]) + k.behind
			if strings.Contains(plain+k.signs, c) {
				want = k.ahead + "a" + c + k.behind
			}
			if got, err := uri.Print(k.make("a" + c)); got != want || err != api.OK {
				t.Errorf("%q in the %s: %q, %d", c, k.name, got, err)
			}
		}
	}
}

func TestP3_3PrintErrors(t *testing.T) {
	u := api.URI{Scheme: "SIP", User: long(65), Host: "B", Port: 65536, Params: bare("x", "X"), Headers: bare("y")}
	for _, x := range []struct {
		want api.Errno
		mend func()
	}{
		{api.ErrScheme, func() { u.Scheme = "sip" }},
		{api.ErrUser, func() { u.User = long(64) }},
		{api.ErrHost, func() { u.Host = "b" }},
		{api.ErrPort, func() { u.Port = 65535 }},
		{api.ErrParam, func() { u.Params = bare("x") }},
		{api.ErrParam, func() { u.Headers = one("y", "") }},
	} {
		if s, err := uri.Print(u); s != "" || err != x.want {
			t.Errorf("Print(%v) = %q, %d, not %d", u, s, err, x.want)
		}
		x.mend()
	}
	if s, err := uri.Print(u); s != "sip:"+long(64)+"@b:65535;x?y=" || err != api.OK {
		t.Errorf("mended: %q, %d", s, err)
	}
	if s, err := uri.Print(api.URI{}); s != "" || err != api.ErrScheme {
		t.Errorf("the zero URI: %q, %d", s, err)
	}
}

func TestP3_3PrintLeavesItsArgument(t *testing.T) {
	room := append(one("X", "A b"), one("spare", "s")...)
	u := api.URI{Scheme: "sip", Host: "h", Params: room[:1], Headers: room[:1]}
	uri.Print(u)
	uri.Check(u)
	if !slices.Equal(room, append(one("X", "A b"), one("spare", "s")...)) {
		t.Error(room)
	}
}
