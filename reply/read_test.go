package reply_test

import (
	"math/rand"
	"reflect"
	"slices"
	"strings"
	"testing"

	"roster/addr"
	"roster/api"
	"roster/frame"
	heads "roster/head"
	"roster/reply"
	"roster/scan"
	"roster/uri"
)

// readFaults are what Read does not take, though Base does, in the chapter's order.
func readFaults() [][]fault {
	target := func(err api.Errno, s string) fault {
		return fault{"target " + s, err, func(d *draft) { d.target = s }}
	}
	return [][]fault{
		{
			target(api.ErrScheme, ""),
			target(api.ErrScheme, "tel:1"),
			target(api.ErrScheme, "<sip:a@b>"),
			target(api.ErrUser, "sip:@b"),
			target(api.ErrHost, "sip:"),
			target(api.ErrHost, "sip:a@b "),
			target(api.ErrPort, "sip:a@b:0"),
			target(api.ErrParam, "sip:a@b;"),
		},
		{
			puts(api.ErrMissing, "From", "<sip:a@b>"),
			puts(api.ErrMissing, "From", "<sip:a@b>;tag"),
			puts(api.ErrMissing, "From", `<sip:a@b>;tag=""`),
			puts(api.ErrMissing, "From", "<sip:a@b;tag=1>;tags=1"),
		},
		{doubles(api.ErrMany, "Expires")},
		{puts(api.ErrNumber, "Expires", ""), puts(api.ErrNumber, "Expires", "-1"), puts(api.ErrNumber, "Expires", "60,60"), puts(api.ErrNumber, "Expires", "60;x")},
		{doubles(api.ErrMany, "Event")},
		{puts(api.ErrEvent, "Event", ""), puts(api.ErrEvent, "Event", "a b"), puts(api.ErrEvent, "Event", "presence;"), puts(api.ErrEvent, "Event", "presence"+fields(17))},
		{doubles(api.ErrMany, "Contact")},
		{
			puts(api.ErrScheme, "Contact", ""),
			puts(api.ErrScheme, "Contact", "*"),
			puts(api.ErrAddr, "Contact", "<sip:a@b>,<sip:c@d"),
			puts(api.ErrHost, "Contact", "<sip:a@b>,sip:a@"),
			puts(api.ErrParam, "Contact", "<sip:a@b>;x=,*"),
			puts(api.ErrMany, "Contact", many(17, "<sip:a@b>")),
			puts(api.ErrMany, "Contact", many(17, "*")),
		},
		{doubles(api.ErrMany, "Content-Type")},
		{doubles(api.ErrMany, "SIP-If-Match")},
		{
			puts(api.ErrTag, "SIP-If-Match", ""),
			puts(api.ErrTag, "SIP-If-Match", "a b"),
			puts(api.ErrTag, "SIP-If-Match", " a"),
			puts(api.ErrTag, "SIP-If-Match", "a\t"),
			puts(api.ErrTag, "SIP-If-Match", `"a"`),
			puts(api.ErrTag, "SIP-If-Match", "a,b"),
			puts(api.ErrTag, "SIP-If-Match", long(65)),
		},
		{
			puts(api.ErrScheme, "Record-Route", ""),
			ends(api.ErrScheme, "Record-Route", ","),
			ends(api.ErrAddr, "Record-Route", ",<sip:a"),
			ends(api.ErrHost, "Record-Route", ",<sip:>,*"),
			ends(api.ErrParam, "Record-Route", ";"),
			ends(api.ErrMany, "Record-Route", fields(17)),
		},
		{
			ends(api.ErrMany, "Record-Route", strings.Repeat(",<sip:p>", 15)),
			ends(api.ErrMany, "Record-Route", strings.Repeat(",<sip:p>", 100)),
			ends(api.ErrMany, "Accept", strings.Repeat(",e/f", 15)),
			ends(api.ErrMany, "Accept", strings.Repeat(",", 100)),
		},
	}
}

// TestP10_2ReadWrong has any one thing be wrong, and any two: the first is
// told, and all that Base tells ahead of all that Read tells.
func TestP10_2ReadWrong(t *testing.T) {
	allWrong(t, reply.Read, append(baseFaults(), readFaults()...), full)
}

// TestP10_2ReadBase: what Read does not take is nothing to Base.
func TestP10_2ReadBase(t *testing.T) {
	for _, x := range slices.Concat(readFaults()...) {
		d := full()
		x.make(&d)
		if _, err := reply.Base(d.msg()); err != api.OK {
			t.Errorf("Base, %s: %d", x.name, err)
		}
	}
}

func TestP10_2Read(t *testing.T) {
	m := full().msg()
	want, err := reply.Base(m)
	if err != api.OK {
		t.Fatal(err)
	}
	want.Target = api.URI{Scheme: "sip", User: "alice", Host: "pa.home"}
	want.Expires = 60
	want.Event = api.Event{Name: "presence", Params: []api.Param{with("id", "1")}}
	want.Contact = []api.Addr{place(t, "<sip:carol@c>"), place(t, "sip:d@e")}
	want.Type = "application/pidf+xml"
	want.Match = "aB"
	want.Routes = []string{"<sip:p;lr>", "<sip:q>;x"}
	want.Accept = []string{"a/b", "C/d;q=1"}
	r := rand.New(rand.NewSource(3))
	for range 50 {
		if got, err := reply.Read(mixed(m, r)); err != api.OK || !alike(got, want) {
			t.Fatalf("Read = %+v, %d, not %+v", got, err, want)
		}
	}
}

func TestP10_2ReadShort(t *testing.T) {
	m := short().msg()
	want, _ := reply.Base(m)
	want.Target = api.URI{Scheme: "sip", User: "alice", Host: "pa.home"}
	if got, err := reply.Read(m); err != api.OK || !alike(got, want) || got.Expires != -1 {
		t.Errorf("Read = %+v, %d, not %+v", got, err, want)
	}
}

// TestP10_2ReadOne has one header stand, and asks what is told of it alone.
func TestP10_2ReadOne(t *testing.T) {
	for _, x := range []struct {
		name, value string
		want        api.Request
	}{
		{"Expires", "0", api.Request{Expires: 0}},
		{"Expires", " 060 ", api.Request{Expires: 60}},
		{"Expires", "2147483647", api.Request{Expires: 2147483647}},
		{"Expires", "99999999999999999999", api.Request{Expires: 2147483647}},
		{"Event", " Presence.WInfo ;x", api.Request{Expires: -1, Event: api.Event{Name: "Presence.WInfo", Params: []api.Param{bare("x")}}}},
		{"Contact", " sip:c@d;x ", api.Request{Expires: -1, Contact: []api.Addr{place(t, "<sip:c@d>;x")}}},
		{"Contact", many(16, "<sip:c@d>"), api.Request{Expires: -1, Contact: slices.Repeat([]api.Addr{place(t, "<sip:c@d>")}, 16)}},
		{"Content-Type", " Text/PLAIN;x=Y", api.Request{Expires: -1, Type: "text/plain"}},
		// One that is no type is told as head.Type tells it.
		{"Content-Type", " Text ;x", api.Request{Expires: -1, Type: "text"}},
		{"Content-Type", "a b/C, d", api.Request{Expires: -1, Type: "a b/c, d"}},
		{"Content-Type", "", api.Request{Expires: -1}},
		{"SIP-If-Match", "-.!%*_+`'~aB0", api.Request{Expires: -1, Match: "-.!%*_+`'~aB0"}},
		{"SIP-If-Match", long(64), api.Request{Expires: -1, Match: long(64)}},
		{"Record-Route", "\t\"P, q\"  <sip:p,x@y>\t", api.Request{Expires: -1, Routes: []string{`"P, q"  <sip:p,x@y>`}}},
		{"Record-Route", " sip:p;x ,\tsip:q ", api.Request{Expires: -1, Routes: []string{"sip:p;x", "sip:q"}}},
		{"Record-Route", many(16, "<sip:p>"), api.Request{Expires: -1, Routes: slices.Repeat([]string{"<sip:p>"}, 16)}},
		{"Accept", " a/b;q=\",\" ,, c \t,<d,e>", api.Request{Expires: -1, Accept: []string{`a/b;q=","`, "", "c", "<d,e>"}}},
		{"Accept", "", api.Request{Expires: -1, Accept: []string{""}}},
		{"Accept", many(16, "a/b"), api.Request{Expires: -1, Accept: slices.Repeat([]string{"a/b"}, 16)}},
	} {
		m := short().set(x.name, x.value).msg()
		want, _ := reply.Read(short().msg())
		want.Expires, want.Event, want.Contact, want.Type, want.Match = x.want.Expires, x.want.Event, x.want.Contact, x.want.Type, x.want.Match
		want.Routes, want.Accept = x.want.Routes, x.want.Accept
		if got, err := reply.Read(m); err != api.OK || !alike(got, want) {
			t.Errorf("%s: %q: %+v, %d, not %+v", x.name, x.value, got, err, want)
		}
	}
}

// TestP10_2ReadLists has lists stand in one header or in more of them.
func TestP10_2ReadLists(t *testing.T) {
	all := []string{"<sip:a;lr>", "<sip:b>;x", "C <sip:c>", "<sip:d>"}
	for _, values := range [][]string{
		{"<sip:a;lr>,<sip:b>;x,C <sip:c>,<sip:d>"},
		{"<sip:a;lr>", "<sip:b>;x", "C <sip:c>", "<sip:d>"},
		{"<sip:a;lr> , <sip:b>;x", " C <sip:c>\t,\t<sip:d> "},
	} {
		got, err := reply.Read(short().set("Record-Route", values...).set("Accept", values...).msg())
		if err != api.OK || !slices.Equal(got.Routes, all) || !slices.Equal(got.Accept, all) {
			t.Errorf("of %q: %q, %q, %d", values, got.Routes, got.Accept, err)
		}
	}
	for n := range 20 {
		want := api.OK
		if n > 16 {
			want = api.ErrMany
		}
		for _, name := range []string{"Record-Route", "Accept"} {
			l := slices.Repeat([]string{"<sip:a>"}, n)
			if _, err := reply.Read(short().set(name, l...).msg()); err != want {
				t.Errorf("%d of %s in as many headers: %d", n, name, err)
			}
			if n == 0 {
				continue
			}
			if _, err := reply.Read(short().set(name, many(n, "<sip:a>")).msg()); err != want {
				t.Errorf("%d of %s in one header: %d", n, name, err)
			}
		}
	}
	// Sixteen of each are not too many together.
	if _, err := reply.Read(short().set("Record-Route", many(16, "<sip:a>")).set("Accept", many(16, "a/b")).msg()); err != api.OK {
		t.Errorf("sixteen of both: %d", err)
	}
}

// choices are values of headers, right ones and wrong ones.
var choices = map[string][]string{
	"Via":          {"SIP/2.0/UDP c;branch=z9hG4bK1", "SIP/2.0/UDP c:1;branch=z9hG4bK2", "SIP/2.0/UDP c", "SIP/2.0/UDP c;branch=z9hG4bK1,SIP/2.0/UDP d"},
	"From":         {"<sip:a@b>;tag=1", "sip:a@b;tag=2", "<sip:a@b>;tag=3", "<sip:a@b>"},
	"To":           {"<sip:a@b>;tag=1", "sip:a@b", "<sip:a@b>", "<sip:a@b"},
	"Call-ID":      {"a", "b", "c", "d e"},
	"CSeq":         {"1 A", "2 A", "3 A", "1 B"},
	"Expires":      {"0", "60", "99999999999", "x"},
	"Event":        {"presence", "presence;id=1", "Presence", "a b"},
	"Contact":      {"<sip:a@b>", "sip:a@b, <sip:c@d>", "sip:c@d;x", "*"},
	"Content-Type": {"a/b", "A/B;x", "a", ""},
	"SIP-If-Match": {"a", "b", "c", "a b"},
	"Record-Route": {"<sip:a>", "<sip:a> , sip:b", many(8, "sip:c"), "<sip:a>,"},
	"Accept":       {"a/b", "a/b , c", many(8, "a/b"), ""},
}

// some is a message of the choices, mostly a right one.
func some(r *rand.Rand) api.Msg {
	d := draft{"A", "sip:a@b", map[string][]string{}}
	if r.Intn(30) == 0 {
		d.target = "sip:a@"
	}
	for i, name := range names {
		n := 1
		switch k := r.Intn(20); {
		case k == 0:
			n = 0
		case k == 1:
			n = 2
		case k < 8 && i >= 5:
			n = 0
		case name == "Via" || name == "Record-Route" || name == "Accept":
			n = 1 + r.Intn(3)
		}
		for range n {
			at := r.Intn(3)
			if r.Intn(30) == 0 {
				at = 3
			}
			d.values[name] = append(d.values[name], choices[name][at])
		}
	}
	return mixed(d.msg(), r)
}

// fails tells what the chapter says of a message that Base takes, in its
// order: the first error, or OK.
func fails(m api.Msg, fromTag string) api.Errno {
	_, targetErr := uri.Parse(m.Target)
	errs := []api.Errno{targetErr}
	note := func(wrong bool, err api.Errno) {
		if wrong {
			errs = append(errs, err)
		}
	}
	note(fromTag == "", api.ErrMissing)
	for _, name := range names[5:10] {
		l := frame.All(m, name)
		note(len(l) > 1, api.ErrMany)
		if len(l) != 1 {
			continue
		}
		var err api.Errno
		switch name {
		case "Expires":
			_, err = heads.Time(l[0])
		case "Event":
			_, err = heads.Event(l[0])
		case "Contact":
			_, err = addr.List(l[0])
		case "SIP-If-Match":
			note(!scan.Token(l[0]), api.ErrTag)
		}
		errs = append(errs, err)
	}
	routes := scan.Parts(strings.Join(frame.All(m, "Record-Route"), ","), ',')
	if len(frame.All(m, "Record-Route")) > 0 {
		for _, route := range routes {
			_, err := addr.Parse(route)
			errs = append(errs, err)
		}
	}
	note(len(routes) > 16 || len(scan.Parts(strings.Join(frame.All(m, "Accept"), ","), ',')) > 16, api.ErrMany)
	for _, err := range errs {
		if err != api.OK {
			return err
		}
	}
	return api.OK
}

// TestP10_2ReadMany holds Read against the chapter's words, over many messages.
func TestP10_2ReadMany(t *testing.T) {
	r := rand.New(rand.NewSource(4))
	right, wrong := 0, 0
	for range 30000 {
		m := some(r)
		base, err := reply.Base(m)
		got, readErr := reply.Read(m)
		if err != api.OK {
			if readErr != err || !none(got) || !none(base) {
				t.Fatalf("Read(%+v) = %+v, %d, but Base: %+v, %d", m, got, readErr, base, err)
			}
			continue
		}
		if want := fails(m, base.FromTag); readErr != want {
			t.Fatalf("Read(%+v): %d, not %d", m, readErr, want)
		}
		if readErr != api.OK {
			wrong++
			if !none(got) {
				t.Fatalf("Read(%+v) = %+v beside %d", m, got, readErr)
			}
			continue
		}
		right++
		if want := filled(base, m); !alike(got, want) {
			t.Fatalf("Read(%+v) = %+v, not %+v", m, got, want)
		}
	}
	if right < 3000 || wrong < 3000 {
		t.Errorf("only %d right and %d wrong messages", right, wrong)
	}
}

// filled is what Read is to tell of a message that is right, beside what Base tells.
func filled(r api.Request, m api.Msg) api.Request {
	r.Target, _ = uri.Parse(m.Target)
	if s, ok := frame.One(m, "Expires"); ok {
		r.Expires, _ = heads.Time(s)
	}
	if s, ok := frame.One(m, "Event"); ok {
		r.Event, _ = heads.Event(s)
	}
	if s, ok := frame.One(m, "Contact"); ok {
		r.Contact, _ = addr.List(s)
	}
	if s, ok := frame.One(m, "Content-Type"); ok {
		r.Type, _ = heads.Type(s)
	}
	r.Match, _ = frame.One(m, "SIP-If-Match")
	for _, s := range frame.All(m, "Record-Route") {
		r.Routes = append(r.Routes, trimmed(strings.Split(s, ","))...)
	}
	for _, s := range frame.All(m, "Accept") {
		r.Accept = append(r.Accept, trimmed(strings.Split(s, ","))...)
	}
	return r
}

// trimmed are texts without blanks at their ends.
func trimmed(l []string) []string {
	for i, s := range l {
		l[i] = strings.Trim(s, " \t")
	}
	return l
}

// textsOf are all texts that lie in a value, in any of its fields and lists.
func textsOf(v reflect.Value) []string {
	var l []string
	switch v.Kind() {
	case reflect.String:
		l = append(l, v.String())
	case reflect.Struct:
		for i := range v.NumField() {
			l = append(l, textsOf(v.Field(i))...)
		}
	case reflect.Slice:
		for i := range v.Len() {
			l = append(l, textsOf(v.Index(i))...)
		}
	}
	return l
}

func TestRuleMemoryRead(t *testing.T) {
	// No text of one byte is told: of these the runtime keeps a table.
	d := full().set("Contact", "<sip:carol@home.org>, sip:dan@home.org;x1").set("From", "Carol <sip:carol@home>;tag=12;x1").set("To", "<sip:alice@home>;tag=34").set("Event", "presence;id=56")
	for _, l := range d.values {
		for i := range l {
			l[i] = strings.Clone(l[i])
		}
	}
	d.method, d.target = strings.Clone(d.method), strings.Clone(d.target)
	m := d.msg()
	m.Body = strings.Clone(m.Body)
	m.Headers = append(slices.Clone(m.Headers), head("kept", "kept"))[:len(m.Headers)]
	was := slices.Clone(m.Headers[:len(m.Headers)+1])
	given := textsOf(reflect.ValueOf(m))
	for _, f := range []call{reply.Base, reply.Read} {
		one, _ := f(m)
		two, _ := f(m)
		first, second := textsOf(reflect.ValueOf(one)), textsOf(reflect.ValueOf(two))
		for i, s := range first {
			for _, g := range given {
				if !apart(s, g) {
					t.Errorf("%q shares memory with %q", s, g)
				}
			}
			if !apart(s, second[i]) {
				t.Errorf("two answers share %q", s)
			}
		}
	}
	one, _ := reply.Read(m)
	two, _ := reply.Read(m)
	one.Routes[0], one.Accept[0], one.Contact[0], one.Event.Params[0], one.From.Params[0] = "", "", api.Addr{}, bare("x"), bare("x")
	if again, _ := reply.Read(m); !alike(two, again) {
		t.Error("two answers share a list")
	}
	if !slices.Equal(m.Headers[:len(m.Headers)+1], was) {
		t.Errorf("an argument was changed: %+v", m.Headers[:len(m.Headers)+1])
	}
}
