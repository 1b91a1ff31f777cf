package uri_test

import (
	"regexp"
	"strings"
	"testing"
	"unsafe"

	"roster/api"
	"roster/uri"
)

func TestP3_5Parse(t *testing.T) {
	for s, want := range map[string]api.URI{
		"SIP:a%20b@Example.org:5070;lr;x=1?y=2": {Scheme: "sip", User: "a b", Host: "example.org", Port: 5070, Params: append(bare("lr"), one("x", "1")...), Headers: one("y", "2")},
		"sip:a":                                 {Scheme: "sip", Host: "a"},
		"Sips:A":                                {Scheme: "sips", Host: "a"},
		"PRES:Bob@Example.ORG":                  {Scheme: "pres", User: "Bob", Host: "example.org"},
		"sip:[::A]:5060":                        {Scheme: "sip", Host: "[::a]", Port: 5060},
		"sip:u@[::1]":                           {Scheme: "sip", User: "u", Host: "[::1]"},
		"sip:&=+$,;?/@a":                        {Scheme: "sip", User: "&=+$,;?/", Host: "a"},
		"sip:b;x=a@c":                           {Scheme: "sip", User: "b;x=a", Host: "c"},
		"sip:b?x=a@c?y=1":                       {Scheme: "sip", User: "b?x=a", Host: "c", Headers: one("y", "1")},
		"sip:%00%40%3a@a":                       {Scheme: "sip", User: "\x00@:", Host: "a"},
		"sip:a;x=":                              {Scheme: "sip", Host: "a", Params: one("x", "")},
		"sip:a;X;Y=%3B%3d%3F":                   {Scheme: "sip", Host: "a", Params: append(bare("X"), one("Y", ";=?")...)},
		"sip:a;%3D=%25":                         {Scheme: "sip", Host: "a", Params: one("=", "%")},
		"sip:a;[]/:&+$=$+&:/][":                 {Scheme: "sip", Host: "a", Params: one("[]/:&+$", "$+&:/][")},
		"sip:a?x=":                              {Scheme: "sip", Host: "a", Headers: one("x", "")},
		"sip:a?x=1&Y=2&z=":                      {Scheme: "sip", Host: "a", Headers: append(append(one("x", "1"), one("Y", "2")...), one("z", "")...)},
		"sip:a?[]/?:+$=$+:?/][":                 {Scheme: "sip", Host: "a", Headers: one("[]/?:+$", "$+:?/][")},
		"sip:a;x&y=1?z=2":                       {Scheme: "sip", Host: "a", Params: one("x&y", "1"), Headers: one("z", "2")},
		"sip:a;x?x=1":                           {Scheme: "sip", Host: "a", Params: bare("x"), Headers: one("x", "1")},
		"sip:a:1;x:y=:":                         {Scheme: "sip", Host: "a", Port: 1, Params: one("x:y", ":")},
		"sip:" + long(64) + "@a":                {Scheme: "sip", User: long(64), Host: "a"},
		"sip:" + long(64):                       {Scheme: "sip", Host: long(64)},
		"sip:a;" + long(64):                     {Scheme: "sip", Host: "a", Params: bare(long(64))},
		"sip:a?x=" + long(64):                   {Scheme: "sip", Host: "a", Headers: one("x", long(64))},
		"sip:a:0005060":                         {Scheme: "sip", Host: "a", Port: 5060},
		// What counts is what an escaped text stands for.
		"sip:" + strings.Repeat("%41", 64) + "@a":   {Scheme: "sip", User: strings.Repeat("A", 64), Host: "a"},
		"sip:a;" + strings.Repeat("%7a", 64) + "=1": {Scheme: "sip", Host: "a", Params: one(strings.Repeat("z", 64), "1")},
	} {
		got, err := uri.Parse(s)
		if !like(got, want) || err != api.OK {
			t.Errorf("Parse(%q) = %v, %d", s, got, err)
		}
	}
}

// joined is the text of n parameters, a sign ahead of the first, another ahead of each other one.
func joined(n int, ahead, next string) string {
	s := ""
	for _, p := range many(n) {
		s += ahead + p.Name + "=v"
		ahead = next
	}
	return s
}

func TestP3_5ParseErrors(t *testing.T) {
	for _, x := range []struct {
		s    string
		want api.Errno
	}{
		{"", api.ErrScheme},
		{"sip", api.ErrScheme},
		{"sip a@b", api.ErrScheme},
		{":a", api.ErrScheme},
		{"tel:1", api.ErrScheme},
		{" sip:a", api.ErrScheme},
		{"sip :a", api.ErrScheme},
		{"a@b", api.ErrScheme},
		{"a@b:5060", api.ErrScheme},
		{"s%69p:a", api.ErrScheme},
		{"\u017fip:a", api.ErrScheme},
		{"tel:@-;?", api.ErrScheme},

		{"sip:@a", api.ErrUser},
		{"sip:@", api.ErrUser},
		{"sip:a:b@c", api.ErrUser},
		{"sip:a b@c", api.ErrUser},
		{"sip:a\"@c", api.ErrUser},
		{"sip:<a@c", api.ErrUser},
		{"sip:é@c", api.ErrUser},
		{"sip:a%@c", api.ErrUser},
		{"sip:a%4@c", api.ErrUser},
		{"sip:a%4g@c", api.ErrUser},
		{"sip:[::1]@c", api.ErrUser},
		{"sip:" + long(65) + "@a", api.ErrUser},
		{"sip:" + strings.Repeat("%41", 65) + "@a", api.ErrUser},
		{"sip:a;x=%@-:0", api.ErrUser},

		{"sip:", api.ErrHost},
		{"sip:a@", api.ErrHost},
		{"sip:a@@b", api.ErrHost},
		{"sip:a@b@c", api.ErrHost},
		{"sip:a@:5060", api.ErrHost},
		{"sip:;x", api.ErrHost},
		{"sip:?x=1", api.ErrHost},
		{"sip:a@-b", api.ErrHost},
		{"sip:a@b.", api.ErrHost},
		{"sip: a", api.ErrHost},
		{"sip:a ", api.ErrHost},
		{"sip:%61", api.ErrHost},
		{"sip:a&b", api.ErrHost},
		{"sip:::1", api.ErrHost},
		{"sip:[::1", api.ErrHost},
		{"sip:[:;:]", api.ErrHost},
		{"sip:[:?:]", api.ErrHost},
		{"sip:" + long(65), api.ErrHost},
		{"sip:-;=", api.ErrHost},
		{"sip:-:0;=?", api.ErrHost},

		{"sip:a@b:0", api.ErrPort},
		{"sip:a@b:65536", api.ErrPort},
		{"sip:a@b:", api.ErrPort},
		{"sip:a@b:;x", api.ErrPort},
		{"sip:a@b:x", api.ErrPort},
		{"sip:a@b:1:2", api.ErrPort},
		{"sip:a:b", api.ErrPort},
		{"sip:a:0;=?", api.ErrPort},

		{"sip:a@b;", api.ErrParam},
		{"sip:a@b;;", api.ErrParam},
		{"sip:a@b;x;", api.ErrParam},
		{"sip:a@b;;x", api.ErrParam},
		{"sip:a@b;=", api.ErrParam},
		{"sip:a@b;=1", api.ErrParam},
		{"sip:a@b;x;X", api.ErrParam},
		{"sip:a@b;x;%58=1", api.ErrParam},
		{"sip:a@b;x=1=2", api.ErrParam},
		{"sip:a@b;x==", api.ErrParam},
		{"sip:a@b;x,y", api.ErrParam},
		{"sip:a@b; x", api.ErrParam},
		{"sip:a@b;x ", api.ErrParam},
		{"sip:a@b;x=\"y\"", api.ErrParam},
		{"sip:a@b;x=<y>", api.ErrParam},
		{"sip:a@b;x=é", api.ErrParam},
		{"sip:a@b;x=y@c", api.ErrParam},
		{"sip:a@b;%", api.ErrParam},
		{"sip:a@b;x=%", api.ErrParam},
		{"sip:a@b;x=%4", api.ErrParam},
		{"sip:a@b;%4g=1", api.ErrParam},
		{"sip:b;" + long(65), api.ErrParam},
		{"sip:b;x=" + long(65), api.ErrParam},
		{"sip:b;x=" + strings.Repeat("%41", 65), api.ErrParam},
		{"sip:a@b?", api.ErrParam},
		{"sip:a@b?x", api.ErrParam},
		{"sip:a@b?x=1&y", api.ErrParam},
		{"sip:a@b?x=1&", api.ErrParam},
		{"sip:a@b?&x=1", api.ErrParam},
		{"sip:a@b?=1", api.ErrParam},
		{"sip:a@b?x=1&X=2", api.ErrParam},
		{"sip:a@b?x=1;y=2", api.ErrParam},
		{"sip:a@b?x=1=2", api.ErrParam},
		{"sip:a@b?x=1,2", api.ErrParam},
		{"sip:a@b?x=\"\"", api.ErrParam},
		{"sip:a@b?x=%", api.ErrParam},
		{"sip:a@b?%2=1", api.ErrParam},
		{"sip:b?" + long(65) + "=1", api.ErrParam},
		{"sip:b?x=" + long(65), api.ErrParam},
		{"sip:b" + joined(17, ";", ";"), api.ErrParam},
		{"sip:b" + joined(17, "?", "&"), api.ErrParam},
		{"sip:b;%?x=1", api.ErrParam},
	} {
		got, err := uri.Parse(x.s)
		if !like(got, api.URI{}) || err != x.want {
			t.Errorf("Parse(%q) = %v, %d, not %d", x.s, got, err, x.want)
		}
	}
}

func TestP3_5ParseMost(t *testing.T) {
	s := "sip:b" + joined(16, ";", ";") + joined(16, "?", "&")
	want := api.URI{Scheme: "sip", Host: "b", Params: many(16), Headers: many(16)}
	if got, err := uri.Parse(s); !like(got, want) || err != api.OK {
		t.Errorf("Parse(%q) = %v, %d", s, got, err)
	}
}

func TestP3_5ParseSigns(t *testing.T) {
	// These end the part that they stand in, or a Name; the tables tell what then comes.
	ends := map[string]string{
		"user":                             "@",
		"name of a parameter":              ";=?@",
		"name of a parameter with a value": ";=?@",
		"value of a parameter":             ";?@",
		"name of a header":                 "&=@",
		"value of a header":                "&@",
		"value of another header":          "&@",
	}
	for _, k := range kinds {
		for _, c := range every() {
			for _, form := range []string{coded(c[0]), strings.ToLower(coded(c[0]))} {
				got, err := uri.Parse(k.ahead + "a" + form + k.behind)
				if !like(got, k.make("a"+c)) || err != api.OK {
					t.Errorf("%s in the %s: %v, %d", form, k.name, got, err)
				}
			}
			if strings.Contains(ends[k.name], c) {
				continue
			}
			got, err := uri.Parse(k.ahead + "a" + c + k.behind)
			if strings.Contains(plain+k.signs, c) {
				if !like(got, k.make("a"+c)) || err != api.OK {
					t.Errorf("%q in the %s: %v, %d", c, k.name, got, err)
				}
			} else if !like(got, api.URI{}) || err != k.err {
				t.Errorf("%q in the %s: %v, %d", c, k.name, got, err)
			}
		}
	}
}

// whole says P3.5 as a pattern, but for the words of Check.
var whole = regexp.MustCompile(`^(?:([^@]*)@)?([^;?]*)((?:;[^?]*)?)((?:\?.*)?)$`)

// The parts of a URI, as far as few signs alone are at hand.
var (
	users   = regexp.MustCompile(`^[&=;?a]+$`)
	places  = regexp.MustCompile(`^a+(:.*)?$`)
	params  = regexp.MustCompile(`^([&:a]+)(=[&:a]*)?$`)
	headers = regexp.MustCompile(`^([?:a]+)(=[?:a]*)$`)
)

// kind tells the error that P3.5 asks for, for what stands behind sip: .
func kind(s string) api.Errno {
	m := whole.FindStringSubmatch(s)
	switch {
	case strings.Contains(s, "@") && !users.MatchString(m[1]):
		return api.ErrUser
	case !places.MatchString(m[2]):
		return api.ErrHost
	case strings.Contains(m[2], ":"):
		return api.ErrPort
	case m[3] != "" && !listed(m[3][1:], ";", params):
		return api.ErrParam
	case m[4] != "" && !listed(m[4][1:], "&", headers):
		return api.ErrParam
	}
	return api.OK
}

// listed tells whether each part is as a pattern says, and no two have one name.
func listed(s, sep string, pattern *regexp.Regexp) bool {
	seen := map[string]bool{}
	for _, part := range strings.Split(s, sep) {
		m := pattern.FindStringSubmatch(part)
		if m == nil || seen[m[1]] {
			return false
		}
		seen[m[1]] = true
	}
	return true
}

func TestP3_5ParseAll(t *testing.T) {
	for _, s := range texts("a@:;?&=", 5) {
		u, err := uri.Parse("sip:" + s)
		if want := kind(s); err != want {
			t.Fatalf("Parse(sip:%s): %d, not %d", s, err, want)
		}
		if err != api.OK && !like(u, api.URI{}) {
			t.Fatalf("Parse(sip:%s) = %v beside %d", s, u, err)
		}
	}
}

// uris are URIs that may be, of awkward texts.
func uris() []api.URI {
	var l []api.URI
	odd := append(texts("a;=?&@:%[\xff", 2), "%41", "Ab", " ", long(64), strings.Repeat("%", 64))
	for i, s := range odd {
		for j, host := range []string{"h", "[::1]", "a.b-c.d", long(64)} {
			u := api.URI{Scheme: []string{"sip", "sips", "pres"}[(i+j)%3], User: s, Host: host, Port: []int{0, 1, 5060, 65535}[(i+j)%4]}
			l = append(l, u)
			if s == "" {
				continue
			}
			u.Params = append(one("x1", odd[len(odd)-1-i]), api.Param{Name: s, Has: i%2 == 0})
			l = append(l, u)
			u.Headers = append(one("x1", s), api.Param{Name: s, Value: "é" + host[:1], Has: true})
			l = append(l, u)
			u.Params = nil
			l = append(l, u)
		}
	}
	for n := range 17 {
		l = append(l, api.URI{Scheme: "sip", Host: "h", Params: many(n), Headers: many(16 - n)})
	}
	return l
}

func TestP3_6Printed(t *testing.T) {
	for _, u := range uris() {
		s, err := uri.Print(u)
		if err != api.OK {
			t.Fatalf("Print(%v): %d", u, err)
		}
		if got, err := uri.Parse(s); !like(got, u) || err != api.OK {
			t.Fatalf("%v is printed as %q, and parsed as %v, %d", u, s, got, err)
		}
	}
}

func TestP3_6Parsed(t *testing.T) {
	good := 0
	all := texts("a@;?=%4:", 6)
	for _, s := range append(all, "A@B.C:007;%61=%62;C?D=%64", "[::F]:00001?%3f=?") {
		u, err := uri.Parse("SIPS:" + s)
		if err != api.OK {
			continue
		}
		good++
		p, err := uri.Print(u)
		if err != api.OK {
			t.Fatalf("%q is parsed as %v, which is not printed: %d", s, u, err)
		}
		if got, err := uri.Parse(p); !like(got, u) || err != api.OK {
			t.Fatalf("%q is parsed as %v, printed as %q, and parsed as %v, %d", s, u, p, got, err)
		}
	}
	if good < 100 {
		t.Errorf("only %d of them may be", good)
	}
}

func TestP3_6Capitals(t *testing.T) {
	for _, x := range [][2]string{
		{"sip:a@b.c", "SIP:a@B.C"},
		{"sips:example.org:5060;x", "sIpS:EXAMPLE.org:5060;x"},
		{"pres:U@[fe80::a]", "Pres:U@[FE80::A]"},
	} {
		a, err := uri.Parse(x[0])
		if err != api.OK {
			t.Fatal(x[0], err)
		}
		if b, err := uri.Parse(x[1]); !like(a, b) || err != api.OK {
			t.Errorf("%q and %q: %v, %v, %d", x[0], x[1], a, b, err)
		}
	}
	// Elsewhere they do.
	for _, x := range [][2]string{{"sip:a@b", "sip:A@b"}, {"sip:b;x", "sip:b;X"}, {"sip:b;x=y", "sip:b;x=Y"}, {"sip:b?x=y", "sip:b?x=Y"}} {
		a, _ := uri.Parse(x[0])
		if b, err := uri.Parse(x[1]); like(a, b) || err != api.OK {
			t.Errorf("%q and %q: %v, %v, %d", x[0], x[1], a, b, err)
		}
	}
}

// within tells whether a text lies in the memory of another.
func within(part, whole string) bool {
	if part == "" {
		return false
	}
	at, from := uintptr(unsafe.Pointer(unsafe.StringData(part))), uintptr(unsafe.Pointer(unsafe.StringData(whole)))
	return at >= from && at < from+uintptr(len(whole))
}

func TestP3_5ParseNewMemory(t *testing.T) {
	s := strings.Clone("sip:user@host.org:5060;name=value;lr?header=text")
	u, err := uri.Parse(s)
	if err != api.OK {
		t.Fatal(err)
	}
	l := []string{u.Scheme, u.User, u.Host}
	for _, p := range append(u.Params, u.Headers...) {
		l = append(l, p.Name, p.Value)
	}
	host, _, _ := uri.Where(s[9:17])
	if host != "host.org" {
		t.Error(host)
	}
	for _, part := range append(l, host) {
		if within(part, s) {
			t.Errorf("%q lies in what was handed in", part)
		}
	}
}
