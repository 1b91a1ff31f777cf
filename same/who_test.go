package same_test

import (
	"strings"
	"testing"

	"roster/api"
	"roster/same"
	"roster/uri"
)

func TestP4_3Who(t *testing.T) {
	for s, want := range map[string]string{
		"sip:a@b":                       "a@b",
		"sips:a%20b@c:1;x":              "a%20b@c",
		"PRES:Bob@Example.ORG":          "Bob@example.org",
		"sip:a@[::A]:5060;lr?x=1":       "a@[::a]",
		"sip:a;b=c?d&e+$,/@h":           "a;b=c?d&e+$,/@h",
		"sip:%61%3a%40%25@h":            "a%3A%40%25@h",
		"sip:%00%ff@h":                  "%00%FF@h",
		"sip:sip%3ab@h":                 "sip%3Ab@h",
		"sip:" + long(64) + "@h":        long(64) + "@h",
		"sip:a@" + long(64):             "a@" + long(64),
		"sip:a@h;user=phone;maddr=x.y":  "a@h",
		"sip:a@h?subject=b%40c&x=b%40c": "a@h",
	} {
		if got, err := same.Who(read(t, s)); got != want || err != api.OK {
			t.Errorf("Who(%s) = %q, %d", s, got, err)
		}
	}
}

func TestP4_3WhoErrors(t *testing.T) {
	u := api.URI{Scheme: "tel", User: long(65), Host: "-", Port: -1, Params: list(bare("")), Headers: list(bare("x"))}
	for _, x := range []struct {
		want api.Errno
		mend func()
	}{
		{api.ErrScheme, func() { u.Scheme = "pres" }},
		{api.ErrUser, func() { u.User = "" }},
		// That there is no user comes behind all that Check finds.
		{api.ErrHost, func() { u.Host = "h" }},
		{api.ErrPort, func() { u.Port = 65536 }},
		{api.ErrPort, func() { u.Port = 5060 }},
		{api.ErrParam, func() { u.Params = list(bare("x")) }},
		{api.ErrParam, func() { u.Headers[0].Has = true }},
		{api.ErrUser, func() { u.User = "a" }},
	} {
		if got, err := same.Who(u); got != "" || err != x.want {
			t.Errorf("Who(%v) = %q, %d, not %d", u, got, err, x.want)
		}
		x.mend()
	}
	if got, err := same.Who(u); got != "a@h" || err != api.OK {
		t.Errorf("mended: %q, %d", got, err)
	}
	if got, err := same.Who(api.URI{}); got != "" || err != api.ErrScheme {
		t.Errorf("nothing: %q, %d", got, err)
	}
	if got, err := same.Who(api.URI{Scheme: "sip", User: "a", Host: "H"}); got != "" || err != api.ErrHost {
		t.Errorf("a host in capital letters: %q, %d", got, err)
	}
}

func TestP4_3Host(t *testing.T) {
	for _, x := range []struct {
		who  string
		host string
		err  api.Errno
	}{
		{"a@b", "b", api.OK},
		{"a@b.c", "b.c", api.OK},
		{"Bob@example.org", "example.org", api.OK},
		{"a%20b@[::1]", "[::1]", api.OK},
		{"a;b?c@d", "d", api.OK},
		{"sip%3Aa@b", "b", api.OK},
		{long(64) + "@" + long(64), long(64), api.OK},
		{strings.Repeat("%FF", 64) + "@b", "b", api.OK},

		{"@b", "", api.ErrUser},
		{"a:b@c", "", api.ErrUser},
		{"a b@c", "", api.ErrUser},
		{"a%@b", "", api.ErrUser},
		{"sip:a@b", "", api.ErrUser},
		{long(65) + "@b", "", api.ErrUser},
		{"", "", api.ErrHost},
		{"@", "", api.ErrUser},
		{"a@", "", api.ErrHost},
		{"a@b@c", "", api.ErrHost},
		{"a@-b", "", api.ErrHost},
		{" ", "", api.ErrHost},
		{"a@" + long(65), "", api.ErrHost},
		{"a@b:0", "", api.ErrPort},
		{"a@b:", "", api.ErrPort},
		{"a@b;", "", api.ErrParam},
		{"a@b;x;X", "", api.ErrParam},
		{"a@b?x", "", api.ErrParam},
		{"b:0", "", api.ErrPort},
		{"b;", "", api.ErrParam},

		// These are parsed, but are no names.
		{"b", "", api.ErrUser},
		{"example.org", "", api.ErrUser},
		{"a@B", "", api.ErrUser},
		{"a@[::A]", "", api.ErrUser},
		{"%61@b", "", api.ErrUser},
		{"a%3a@b", "", api.ErrUser},
		{"a%2B@b", "", api.ErrUser},
		{"a@b:5060", "", api.ErrUser},
		{"a@b;x", "", api.ErrUser},
		{"a@b;x=1", "", api.ErrUser},
		{"a@b?x=1", "", api.ErrUser},
	} {
		if host, err := same.Host(x.who); host != x.host || err != x.err {
			t.Errorf("Host(%q) = %q, %d, not %q, %d", x.who, host, err, x.host, x.err)
		}
	}
}

func TestP4_3HostOfWho(t *testing.T) {
	users := []string{"a", "A", " ", "a b", "&=+$,;?/", "@", ":", "%", "%41", "\x00\xff", "é", "sip:a@b", long(64)}
	for i := range 256 {
		users = append(users, string([]byte{byte(i)}), string([]byte{'a', byte(i), 'b'}))
	}
	for _, user := range users {
		for _, host := range []string{"b", "b-c.d", "1.2.3.4", "[fe80::1]", long(64)} {
			who, err := same.Who(api.URI{Scheme: "sips", User: user, Host: host, Port: 5061})
			if err != api.OK {
				t.Fatalf("Who of %q at %s: %d", user, host, err)
			}
			if got, err := same.Host(who); got != host || err != api.OK {
				t.Errorf("Host(%q) = %q, %d", who, got, err)
			}
		}
	}
}

func TestP4_3HostAll(t *testing.T) {
	// Of all short texts, just those are names that are told of what they are parsed as.
	names := 0
	all := []string{""}
	for from, n := 0, 0; n < 5; n++ {
		to := len(all)
		for _, s := range all[from:to] {
			for _, c := range []string{"a", "B", "@", ":", ";", "?", "=", "%", "4", "."} {
				all = append(all, s+c)
			}
		}
		from = to
	}
	for _, s := range all {
		wantHost, wantErr := "", api.OK
		u, err := uri.Parse("sip:" + s)
		if printed, _ := uri.Print(api.URI{Scheme: "sip", User: u.User, Host: u.Host}); err != api.OK {
			wantErr = err
		} else if u.User == "" || printed != "sip:"+s {
			wantErr = api.ErrUser
		} else {
			wantHost = u.Host
			names++
		}
		if host, err := same.Host(s); host != wantHost || err != wantErr {
			t.Fatalf("Host(%q) = %q, %d, not %q, %d", s, host, err, wantHost, wantErr)
		}
	}
	if names < 100 {
		t.Errorf("only %d of them are names", names)
	}
}

func TestP4_3NewMemory(t *testing.T) {
	u := api.URI{Scheme: "sip", User: strings.Clone("user"), Host: strings.Clone("host.org")}
	who, err := same.Who(u)
	if err != api.OK || !apart(who, u.User) || !apart(who, u.Host) {
		t.Error("a name lies in what was handed in", err)
	}
	host, err := same.Host(who)
	if host != "host.org" || err != api.OK || !apart(host, who) {
		t.Error("a host lies in what was handed in", host, err)
	}
}

func TestP4_4WhoseItIs(t *testing.T) {
	for _, u := range uris() {
		if u.User == "" {
			continue
		}
		want, err := same.Who(u)
		if err != api.OK {
			t.Fatal(u, err)
		}
		for _, scheme := range []string{"sip", "sips", "pres"} {
			for _, port := range []int{0, 1, 65535} {
				for _, l := range [][]api.Param{nil, list(with("user", "ip")), numbered(16)} {
					other := api.URI{Scheme: scheme, User: u.User, Host: u.Host, Port: port, Params: l, Headers: l}
					if got, err := same.Who(other); got != want || err != api.OK {
						t.Errorf("Who(%v) = %q, %d, not %q", other, got, err, want)
					}
				}
			}
		}
	}
	// The user, its letters and the host do.
	told := map[string]string{}
	for _, s := range []string{"sip:a@b", "sip:A@b", "sip:a@c", "sip:ab@c", "sip:a@b.c", "sip:%2541@b"} {
		who, err := same.Who(read(t, s))
		if other := told[who]; other != "" || err != api.OK {
			t.Errorf("%s and %s: %q, %d", s, other, who, err)
		}
		told[who] = s
	}
}
