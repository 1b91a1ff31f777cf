package dialog_test

import (
	"fmt"
	"math"
	"reflect"
	"slices"
	"strconv"
	"strings"
	"testing"

	"roster/addr"
	"roster/api"
	"roster/dialog"
)

// long is a text of n bytes.
func long(n int) string { return strings.Repeat("x", n) }

// with is a parameter with a Value.
func with(name, value string) api.Param { return api.Param{Name: name, Value: value, Has: true} }

// bare is a parameter without one.
func bare(name string) api.Param { return api.Param{Name: name} }

// counted are n parameters that may stand together.
func counted(n int) []api.Param {
	var l []api.Param
	for i := range n {
		l = append(l, with("p"+strconv.Itoa(i), "v"))
	}
	return l
}

// place is an address that is right.
func place(s string) api.Addr {
	a, err := addr.Parse(s)
	if err != api.OK {
		panic(s + " is no address")
	}
	return a
}

// asked is a request that begins a dialog.
func asked() api.Request {
	return api.Request{
		Method: "SUBSCRIBE", Target: place("sip:alice@pa.home").URI, Branch: "z9hG4bK0", SentBy: "c:5060",
		From: place("Carol <sip:carol@home>;tag=1"), To: place("<sip:alice@pa.home>"), FromTag: "1", CallID: "c1", Seq: 7, Expires: 60,
		Event: api.Event{Name: "presence"}, Contact: []api.Addr{place("<sip:carol@d:5070>;x=1")}, Routes: []string{"<sip:p;lr>", "<sip:q:9;lr>"},
		Accept: []string{"a/b"}, Type: "c/d", Match: "e", Body: "body",
	}
}

// begun is the dialog that asked begins with the tag x.
func begun() api.Dialog {
	return api.Dialog{
		CallID: "c1", Local: place("<sip:alice@pa.home>;tag=x"), Remote: place("Carol <sip:carol@home>;tag=1"),
		Target: place("sip:carol@d:5070").URI, Routes: []string{"<sip:p;lr>", "<sip:q:9;lr>"}, LastIn: 7,
	}
}

// inside is a request of that dialog that is taken in.
func inside() api.Request {
	r := asked()
	r.To, r.ToTag, r.Seq = place("<sip:alice@pa.home>;tag=x"), "x", 8
	return r
}

// evenParams makes a list that is empty nil: these are alike.
func evenParams(l []api.Param) []api.Param {
	if len(l) == 0 {
		return nil
	}
	return l
}

func evenURI(u api.URI) api.URI {
	u.Params, u.Headers = evenParams(u.Params), evenParams(u.Headers)
	return u
}

func evenAddr(a api.Addr) api.Addr {
	a.URI, a.Params = evenURI(a.URI), evenParams(a.Params)
	return a
}

func even(d api.Dialog) api.Dialog {
	d.Local, d.Remote, d.Target = evenAddr(d.Local), evenAddr(d.Remote), evenURI(d.Target)
	if len(d.Routes) == 0 {
		d.Routes = nil
	}
	return d
}

// alike tells whether two dialogs are one; nil and empty lists are alike.
func alike(a, b api.Dialog) bool { return reflect.DeepEqual(even(a), even(b)) }

// isZero tells whether a dialog says nothing at all.
func isZero(d api.Dialog) bool { return reflect.DeepEqual(even(d), api.Dialog{}) }

// shown is a value as a test tells it, cut where it grows long.
func shown(x any) string {
	s := fmt.Sprintf("%+v", x)
	return s[:min(len(s), 1500)]
}

// begins asks Begin, and what it should answer.
func begins(t *testing.T, r api.Request, tag string, want api.Dialog) {
	t.Helper()
	if got, err := dialog.Begin(r, tag); err != api.OK || !alike(got, want) {
		t.Errorf("Begin(%+v, %q) = %+v, %d, not %+v", r, tag, got, err, want)
	}
}

// refuses asks Begin for something of which there is an error.
func refuses(t *testing.T, r api.Request, tag string, want api.Errno) {
	t.Helper()
	if got, err := dialog.Begin(r, tag); err != want || !isZero(got) {
		t.Errorf("Begin(%s, %.100q) = %s, %d, not %d", shown(r), tag, shown(got), err, want)
	}
}

func TestP18_1Example(t *testing.T) {
	r := asked()
	r.Contact, r.Routes = []api.Addr{place("<sip:c@d:5070>")}, nil
	d, err := dialog.Begin(r, "x")
	if err != api.OK || d.LastIn != 7 || dialog.Where(d) != "d:5070" {
		t.Fatalf("%+v, %d", d, err)
	}
	r.ToTag = "x"
	if _, err := dialog.Take(d, r); err != 180 {
		t.Errorf("7: %d", err)
	}
	r.Seq = 8
	if _, err := dialog.Take(d, r); err != api.OK {
		t.Errorf("8: %d", err)
	}
}

func TestP18_1Begin(t *testing.T) {
	begins(t, asked(), "x", begun())
	// Of the other fields nothing is told, whatever they say.
	r := asked()
	r.Method, r.Target, r.Branch, r.SentBy, r.Expires, r.Event, r.Accept, r.Type, r.Match, r.Body = "", api.URI{}, "", "", -9, api.Event{}, nil, "", "", ""
	begins(t, r, "x", begun())
	for _, tag := range []string{"1", "X", "-.!%*_+`'~", long(64)} {
		want := begun()
		want.Local = api.Addr{URI: want.Local.URI, Params: []api.Param{with("tag", tag)}}
		begins(t, asked(), tag, want)
	}
	for _, n := range []int{0, 1, -1, math.MinInt, math.MaxInt, api.MaxCSeq} {
		r, want := asked(), begun()
		r.Seq, want.LastIn = n, n
		begins(t, r, "x", want)
	}
	for _, routes := range [][]string{nil, {}, {""}, {"no address"}, {"<sip:p>"}, slices.Repeat([]string{"<sip:p>"}, 20)} {
		r, want := asked(), begun()
		r.Routes, want.Routes = routes, routes
		begins(t, r, "x", want)
	}
	for _, id := range []string{"", "a b", long(1000)} {
		r, want := asked(), begun()
		r.CallID, want.CallID = id, id
		begins(t, r, "x", want)
	}
}

// TestP18_1Addresses asks that To gets its tag behind all that it has, and that
// From and the Contact are kept as they stand, whatever they say.
func TestP18_1Addresses(t *testing.T) {
	to := api.Addr{Display: "A\"b", URI: api.URI{Scheme: "sips", User: "a b", Host: "[::1]", Port: 9, Params: []api.Param{with("tag", "u")}, Headers: []api.Param{with("tag", "h")}}, Params: counted(15)}
	r, want := asked(), begun()
	r.To, want.Local = to, to
	want.Local.Params = append(counted(15), with("tag", "x"))
	begins(t, r, "x", want)
	for _, params := range [][]api.Param{{bare("lr")}, {with("tags", "1"), bare("ta")}, {with("gat", "\"")}} {
		r.To.Params, want.Local.Params = params, append(slices.Clone(params), with("tag", "x"))
		begins(t, r, "x", want)
	}
	r, want = asked(), begun()
	for _, a := range []api.Addr{{}, {Display: "\n", Params: counted(20)}, {URI: api.URI{Scheme: "x", Host: "B", Port: -1, Params: counted(17), Headers: []api.Param{bare("h")}}}, place("sip:e@f;tag=2"), place("\"E\" <pres:e@f:1;g?h=i>;tag=1;j")} {
		r.From, want.Remote = a, a
		begins(t, r, "x", want)
		r.Contact, want.Target = []api.Addr{a}, a.URI
		begins(t, r, "x", want)
	}
}

// wrong is a thing that is wrong with a request, or with the tag of it, and the
// error of that. The lists of them are in the chapter's order.
type wrong struct {
	name string
	err  api.Errno
	make func(r *api.Request, tag *string)
}

// faults are what Begin does not take.
func faults() [][]wrong {
	tagIs := func(s string) wrong {
		return wrong{"the tag " + s, 1, func(_ *api.Request, tag *string) { *tag = s }}
	}
	toIs := func(err api.Errno, name string, a api.Addr) wrong {
		return wrong{name, err, func(r *api.Request, _ *string) { r.To = a }}
	}
	contacts := func(n int) wrong {
		return wrong{strconv.Itoa(n) + " contacts", 100, func(r *api.Request, _ *string) { r.Contact = slices.Repeat([]api.Addr{place("<sip:c@d>")}, n) }}
	}
	u := place("sip:a@b").URI
	return [][]wrong{
		{
			{"a ToTag", 1, func(r *api.Request, _ *string) { r.ToTag = "y" }},
			{"the tag as ToTag", 1, func(r *api.Request, _ *string) { r.ToTag = "x" }},
			{"a blank as ToTag", 1, func(r *api.Request, _ *string) { r.ToTag = " " }},
			{"no FromTag", 1, func(r *api.Request, _ *string) { r.FromTag = "" }},
			tagIs(""), tagIs(" "), tagIs("a b"), tagIs("x "), tagIs(";"), tagIs("\"x\""), tagIs("[::1]"), tagIs("é"), tagIs("x\r\n"), tagIs("\x00"), tagIs(long(65)), tagIs(long(100000)),
		},
		{contacts(0), contacts(2), contacts(3), contacts(16), contacts(17)},
		{
			toIs(50, "a name that is too long", api.Addr{Display: long(65), URI: u}),
			toIs(50, "a name with a line's end", api.Addr{Display: "a\n", URI: u}),
			toIs(50, "such a name of nobody", api.Addr{Display: "\x00"}),
			toIs(30, "nobody", api.Addr{}),
			toIs(30, "a capital scheme", api.Addr{URI: api.URI{Scheme: "SIP", User: "a", Host: "b"}}),
			toIs(31, "a user that is too long", api.Addr{URI: api.URI{Scheme: "sip", User: long(65), Host: "b"}}),
			toIs(32, "no host", api.Addr{URI: api.URI{Scheme: "sip", User: "a"}}),
			toIs(32, "a capital host", api.Addr{URI: api.URI{Scheme: "sip", User: "a", Host: "B"}}),
			toIs(33, "a port below", api.Addr{URI: api.URI{Scheme: "sip", Host: "b", Port: -1}}),
			toIs(33, "a port above", api.Addr{URI: api.URI{Scheme: "sip", Host: "b", Port: 65536}, Params: counted(16)}),
			toIs(34, "a URI's parameters", api.Addr{URI: api.URI{Scheme: "sip", Host: "b", Params: counted(17)}, Params: counted(16)}),
			toIs(34, "a URI's headers", api.Addr{URI: api.URI{Scheme: "sip", Host: "b", Headers: []api.Param{bare("h")}}}),
			toIs(34, "no name", api.Addr{URI: u, Params: []api.Param{with("", "1")}}),
			toIs(34, "a value that is too long", api.Addr{URI: u, Params: []api.Param{with("a", long(65))}}),
			// A tag would stand there twice.
			toIs(34, "a tag", place("<sip:a@b>;tag=1")),
			toIs(34, "that tag", place("<sip:a@b>;tag=x")),
			toIs(34, "a tag without a value", place("<sip:a@b>;x;tag")),
			toIs(34, "an empty tag", place("<sip:a@b>;tag=\"\"")),
			toIs(34, "a capital tag", place("<sip:a@b>;TaG=1;y")),
			// With the tag it would be one too many.
			toIs(4, "16 parameters", api.Addr{URI: u, Params: counted(16)}),
			toIs(4, "17 parameters", api.Addr{URI: u, Params: counted(17)}),
			toIs(4, "15 parameters and a tag", api.Addr{URI: u, Params: append(counted(15), with("tag", "1"))}),
		},
	}
}

// TestP18_1BeginWrong has any one thing be wrong, and any two: the first is told.
func TestP18_1BeginWrong(t *testing.T) {
	all := faults()
	for i, group := range all {
		for _, x := range group {
			r, tag := asked(), "x"
			x.make(&r, &tag)
			refuses(t, r, tag, x.err)
			for _, y := range slices.Concat(all[i+1:]...) {
				r, tag := asked(), "x"
				x.make(&r, &tag)
				y.make(&r, &tag)
				refuses(t, r, tag, x.err)
			}
		}
	}
	refuses(t, api.Request{}, "", 1)
	refuses(t, api.Request{}, "x", 1)
	refuses(t, api.Request{FromTag: "1"}, "x", 100)
	refuses(t, api.Request{FromTag: "1", Contact: []api.Addr{{}}}, "x", 30)
}

func TestP18_2Match(t *testing.T) {
	tagged := func(tag string) api.Addr { return api.Addr{Params: []api.Param{bare("x"), with("tag", tag)}} }
	for _, x := range []struct {
		change func(d *api.Dialog, r *api.Request)
		want   bool
	}{
		{func(d *api.Dialog, r *api.Request) {}, true},
		{func(d *api.Dialog, r *api.Request) { r.CallID = "c2" }, false},
		{func(d *api.Dialog, r *api.Request) { r.CallID = "C1" }, false},
		{func(d *api.Dialog, r *api.Request) { r.CallID = "" }, false},
		{func(d *api.Dialog, r *api.Request) { r.CallID = "c1 " }, false},
		{func(d *api.Dialog, r *api.Request) { d.CallID = "" }, false},
		{func(d *api.Dialog, r *api.Request) { d.CallID, r.CallID = "", "" }, true},
		{func(d *api.Dialog, r *api.Request) { r.ToTag = "" }, false},
		{func(d *api.Dialog, r *api.Request) { r.ToTag = "X" }, false},
		{func(d *api.Dialog, r *api.Request) { r.ToTag = "xx" }, false},
		{func(d *api.Dialog, r *api.Request) { r.FromTag = "" }, false},
		{func(d *api.Dialog, r *api.Request) { r.FromTag = "2" }, false},
		{func(d *api.Dialog, r *api.Request) { r.FromTag, r.ToTag = r.ToTag, r.FromTag }, false},
		{func(d *api.Dialog, r *api.Request) { d.Local, d.Remote = d.Remote, d.Local }, false},
		{func(d *api.Dialog, r *api.Request) { d.Local.Params = nil }, false},
		{func(d *api.Dialog, r *api.Request) { d.Local.Params, r.ToTag = nil, "" }, true},
		{func(d *api.Dialog, r *api.Request) { d.Remote.Params = nil }, false},
		{func(d *api.Dialog, r *api.Request) { d.Remote.Params, r.FromTag = nil, "" }, true},
		{func(d *api.Dialog, r *api.Request) { d.Remote.Params, r.FromTag = []api.Param{bare("tag")}, "" }, true},
		{func(d *api.Dialog, r *api.Request) { d.Local, r.ToTag = tagged("aB"), "aB" }, true},
		{func(d *api.Dialog, r *api.Request) { d.Local, r.ToTag = tagged("aB"), "ab" }, false},
		{func(d *api.Dialog, r *api.Request) { d.Local.Params = []api.Param{with("TAG", "x"), with("tag", "y")} }, true},
		{func(d *api.Dialog, r *api.Request) { d.Local.Params = []api.Param{with("tag", "y"), with("tag", "x")} }, false},
		{func(d *api.Dialog, r *api.Request) { d.Remote, r.FromTag = tagged("a b"), "a b" }, true},
		// The tags that count are those that the request has as such, and nothing else of it counts.
		{func(d *api.Dialog, r *api.Request) { r.To, r.From = tagged("5"), tagged("6") }, true},
		{func(d *api.Dialog, r *api.Request) { r.To, r.From, r.ToTag = tagged("x"), tagged("1"), "y" }, false},
		{func(d *api.Dialog, r *api.Request) {
			*r = api.Request{CallID: "c1", ToTag: "x", FromTag: "1", Seq: -1}
		}, true},
		{func(d *api.Dialog, r *api.Request) {
			d.Target, d.Routes, d.LastIn, d.LastOut = api.URI{}, []string{""}, math.MaxInt, -1
		}, true},
		{func(d *api.Dialog, r *api.Request) { *d, *r = api.Dialog{}, api.Request{} }, true},
		{func(d *api.Dialog, r *api.Request) { *d = api.Dialog{} }, false},
		{func(d *api.Dialog, r *api.Request) { *r = api.Request{} }, false},
	} {
		d, r := begun(), inside()
		x.change(&d, &r)
		if got := dialog.Match(d, r); got != x.want {
			t.Errorf("Match(%+v, %+v) = %v", d, r, got)
		}
		want := api.ErrNone
		if x.want && r.Seq > d.LastIn {
			want = api.OK
		} else if x.want {
			want = api.ErrOld
		}
		takes(t, d, r, want)
	}
}

// takes asks Take, and what it should answer.
func takes(t *testing.T, d api.Dialog, r api.Request, want api.Errno) {
	t.Helper()
	then := d
	if want == api.OK {
		then.LastIn = r.Seq
		if len(r.Contact) == 1 {
			then.Target = r.Contact[0].URI
		}
	}
	if got, err := dialog.Take(d, r); err != want || !alike(got, then) {
		t.Errorf("Take(%+v, %+v) = %+v, %d, not %+v, %d", d, r, got, err, then, want)
	}
}

func TestP18_2Seq(t *testing.T) {
	for _, x := range []struct {
		last, seq int
		want      api.Errno
	}{
		{7, 8, 0}, {7, 9, 0}, {7, math.MaxInt, 0}, {0, 1, 0}, {0, api.MaxCSeq, 0}, {api.MaxCSeq - 1, api.MaxCSeq, 0}, {-1, 0, 0}, {math.MinInt, math.MinInt + 1, 0}, {math.MinInt, math.MaxInt, 0},
		{7, 7, 180}, {7, 6, 180}, {7, 0, 180}, {7, -1, 180}, {7, math.MinInt, 180}, {0, 0, 180}, {api.MaxCSeq, api.MaxCSeq, 180}, {api.MaxCSeq, 1, 180}, {math.MaxInt, math.MinInt, 180}, {-1, -1, 180},
	} {
		d, r := begun(), inside()
		d.LastIn, r.Seq = x.last, x.seq
		takes(t, d, r, x.want)
		// ErrNone is told ahead of it.
		r.ToTag = "y"
		takes(t, d, r, 6)
	}
}

func TestP18_2Contacts(t *testing.T) {
	one := place("\"E\" <sips:e@f:9;g?h=i>;j=1")
	for _, l := range [][]api.Addr{nil, {}, {one}, {{}}, {{URI: api.URI{Host: "B", Port: -1}}}, {one, one}, {elsewhere(one), one, {}}, slices.Repeat([]api.Addr{one}, 16)} {
		r := inside()
		r.Contact = l
		for _, out := range []int{0, 1, 99} {
			d := begun()
			d.LastOut = out
			takes(t, d, r, 0)
		}
		// Nothing is taken of one that is too old, or another's.
		r.Seq = 7
		takes(t, begun(), r, 180)
		r.CallID = "c2"
		takes(t, begun(), r, 6)
	}
	// The routes stay those that the dialog began with.
	r := inside()
	r.Routes = []string{"<sip:other>"}
	takes(t, begun(), r, 0)
	r.Routes = nil
	takes(t, begun(), r, 0)
}

// elsewhere is an address but for its host.
func elsewhere(a api.Addr) api.Addr {
	a.URI.Host = "other"
	return a
}

func TestP18_3Where(t *testing.T) {
	for _, x := range []struct {
		target string
		routes []string
		want   string
	}{
		{"sip:c@d:5070", nil, "d:5070"},
		{"sip:c@d:5070", []string{}, "d:5070"},
		{"sip:c@d", nil, "d:5060"},
		{"sips:D:1;x?y=1", nil, "d:1"},
		{"pres:c@[::1]", nil, "[::1]:5060"},
		{"sip:c@[::1]:65535", nil, "[::1]:65535"},
		{"sip:c@d:5070", []string{"<sip:p;lr>"}, "p:5060"},
		{"sip:c@d:5070", []string{"<sip:p:9;lr>", "<sip:q:8>"}, "p:9"},
		{"sip:c@d:5070", []string{"\"P, <q>\" <sips:P.Q:9?a=b> ; x"}, "p.q:9"},
		{"sip:c@d:5070", []string{" sip:p:9;lr "}, "p:9"},
		{"sip:c@d:5070", []string{"pres:a@[::2]"}, "[::2]:5060"},
		{"sip:c@d:5070", []string{"<sip:p>", ""}, "p:5060"},
		{"sip:c@d:5070", []string{"<sip:p>", "no address"}, "p:5060"},
		// A route that is no address is not passed over.
		{"sip:c@d:5070", []string{""}, ""},
		{"sip:c@d:5070", []string{"", "<sip:p>"}, ""},
		{"sip:c@d:5070", []string{"no address", "<sip:p>"}, ""},
		{"sip:c@d:5070", []string{"<sip:p"}, ""},
		{"sip:c@d:5070", []string{"<sip:p:0>"}, ""},
		{"sip:c@d:5070", []string{"<sip:p>;"}, ""},
		{"sip:c@d:5070", []string{"<sip:p>,<sip:q>"}, ""},
		{"sip:c@d:5070", []string{"<tel:1>"}, ""},
		{"sip:c@d:5070", []string{"p:5060"}, ""},
	} {
		d := begun()
		d.Target, d.Routes = place("<"+x.target+">").URI, x.routes
		if got := dialog.Where(d); got != x.want {
			t.Errorf("Where(%+v) = %q, not %q", d, got, x.want)
		}
	}
}

// TestP18_3Target asks for targets that may not be: they are told as hops are.
func TestP18_3Target(t *testing.T) {
	for _, x := range []struct {
		u    api.URI
		want string
	}{
		{api.URI{}, ":5060"},
		{api.URI{Host: "A b"}, "A b:5060"},
		{api.URI{Host: "d", Port: 70000}, "d:70000"},
		{api.URI{Host: "d", Port: -1}, "d:"},
		{api.URI{Host: "d", Port: math.MinInt}, "d:"},
		{api.URI{Scheme: "x", User: long(99), Host: "d", Params: counted(20)}, "d:5060"},
	} {
		if got := dialog.Where(api.Dialog{Target: x.u}); got != x.want {
			t.Errorf("Where(%+v) = %q, not %q", x.u, got, x.want)
		}
		if got := dialog.Where(api.Dialog{Target: x.u, Routes: []string{"<sip:p>"}}); got != "p:5060" {
			t.Errorf("Where(%+v) with a route = %q", x.u, got)
		}
		if got := dialog.Where(api.Dialog{Target: x.u, Routes: []string{"p"}}); got != "" {
			t.Errorf("Where(%+v) with a wrong route = %q", x.u, got)
		}
	}
	if got := dialog.Where(api.Dialog{}); got != ":5060" {
		t.Errorf("Where of nothing = %q", got)
	}
}
