package reply_test

import (
	"math/rand"
	"slices"
	"strings"
	"testing"

	"roster/api"
	"roster/reply"
)

// fault is a thing that is wrong with a request: what it changes of one, and
// which error is told of it. The lists of faults are in the chapter's order.
type fault struct {
	name string
	err  api.Errno
	make func(d *draft)
}

// puts is a fault by which all values of a header are another one.
func puts(err api.Errno, name, value string) fault {
	return fault{name + ": " + value, err, func(d *draft) {
		for i := range d.values[name] {
			d.values[name][i] = value
		}
	}}
}

// lacks is a fault by which there is no header of a name.
func lacks(err api.Errno, name string) fault {
	return fault{"no " + name, err, func(d *draft) { delete(d.values, name) }}
}

// doubles is a fault by which a header stands once more, at the end.
func doubles(err api.Errno, name string) fault {
	return fault{name + " twice", err, func(d *draft) {
		if l := d.values[name]; len(l) > 0 {
			d.values[name] = append(l, l[0])
		}
	}}
}

// ends is a fault by which something stands behind the last value of a header.
func ends(err api.Errno, name, behind string) fault {
	return fault{name + " .. " + behind, err, func(d *draft) {
		if l := d.values[name]; len(l) > 0 {
			l[len(l)-1] += behind
		}
	}}
}

// baseFaults are what Base does not take: of those that stand in one list
// here, a request can have only one.
func baseFaults() [][]fault {
	return [][]fault{
		{{"no method", api.ErrArg, func(d *draft) { d.method = "" }}},
		{
			lacks(api.ErrMissing, "Via"),
			puts(api.ErrVia, "Via", "SIP/2.0/TCP c;branch=z9hG4bK1"),
			puts(api.ErrVia, "Via", ""),
			puts(api.ErrHost, "Via", "SIP/2.0/UDP -;branch=z9hG4bK1"),
			puts(api.ErrPort, "Via", "SIP/2.0/UDP c:0;branch=z9hG4bK1"),
			puts(api.ErrParam, "Via", "SIP/2.0/UDP c;branch=z9hG4bK1;"),
			puts(api.ErrMany, "Via", "SIP/2.0/UDP c;branch=z9hG4bK1"+fields(16)),
			ends(api.ErrMany, "Via", strings.Repeat(",SIP/2.0/UDP d", 16)),
			ends(api.ErrVia, "Via", ","),
			ends(api.ErrHost, "Via", ",SIP/2.0/UDP d, SIP/2.0/UDP e f"),
		},
		{
			puts(api.ErrVia, "Via", "SIP/2.0/UDP c"),
			puts(api.ErrVia, "Via", "SIP/2.0/UDP c;branch"),
			puts(api.ErrVia, "Via", "SIP/2.0/UDP c;branch=z9hG4bK"),
			puts(api.ErrVia, "Via", "SIP/2.0/UDP c;branch=1"),
			puts(api.ErrVia, "Via", "SIP/2.0/UDP c, SIP/2.0/UDP d;branch=z9hG4bK1"),
		},
		{lacks(api.ErrMissing, "From"), doubles(api.ErrMissing, "From")},
		{
			puts(api.ErrAddr, "From", "<sip:a@b"),
			puts(api.ErrScheme, "From", ""),
			puts(api.ErrScheme, "From", "<http://a>;tag=1"),
			puts(api.ErrUser, "From", "<sip:@b>;tag=1"),
			puts(api.ErrHost, "From", "<sip:a@>;tag=1"),
			puts(api.ErrPort, "From", "<sip:a@b:0>;tag=1"),
			puts(api.ErrParam, "From", "<sip:a@b>;tag="),
			puts(api.ErrMany, "From", "<sip:a@b>;tag=1"+fields(16)),
			puts(api.ErrAddr, "From", "<sip:a@b>, <sip:c@d>;tag=1"),
		},
		{lacks(api.ErrMissing, "To"), doubles(api.ErrMissing, "To")},
		{
			puts(api.ErrAddr, "To", "<sip:a@b"),
			puts(api.ErrAddr, "To", "sip:a@b?x=1"),
			puts(api.ErrScheme, "To", "<tel:1>"),
			puts(api.ErrUser, "To", "<sip:a:b@c>"),
			puts(api.ErrHost, "To", "<sip:>"),
			puts(api.ErrPort, "To", "<sip:a@b:65536>"),
			puts(api.ErrParam, "To", "<sip:a@b>;"),
			puts(api.ErrMany, "To", "<sip:a@b>"+fields(17)),
		},
		{
			lacks(api.ErrMissing, "Call-ID"),
			doubles(api.ErrMissing, "Call-ID"),
			puts(api.ErrMissing, "Call-ID", ""),
			puts(api.ErrMissing, "Call-ID", "a b"),
			puts(api.ErrMissing, "Call-ID", " c1"),
			puts(api.ErrMissing, "Call-ID", "c1\x7f"),
			puts(api.ErrMissing, "Call-ID", long(129)),
		},
		{lacks(api.ErrMissing, "CSeq"), doubles(api.ErrMissing, "CSeq")},
		{
			puts(api.ErrSeq, "CSeq", ""),
			puts(api.ErrSeq, "CSeq", "7"),
			puts(api.ErrSeq, "CSeq", "PUBLISH"),
			puts(api.ErrSeq, "CSeq", "x PUBLISH"),
			puts(api.ErrSeq, "CSeq", "2147483648 PUBLISH"),
			puts(api.ErrSeq, "CSeq", "7 PUBLISH x"),
			puts(api.ErrSeq, "CSeq", "7 SUBSCRIBE"),
			puts(api.ErrSeq, "CSeq", "7 Publish"),
			{"another method", api.ErrSeq, func(d *draft) {
				if d.method != "" {
					d.method = "NOTIFY"
				}
			}},
		},
	}
}

// call is Base or Read.
type call func(m api.Msg) (api.Request, api.Errno)

// refuses asks whether a call answers an error and nothing else, whatever the
// order of the headers.
func refuses(t *testing.T, f call, m api.Msg, want api.Errno, name string) {
	t.Helper()
	r := rand.New(rand.NewSource(1))
	for _, m := range []api.Msg{m, mixed(m, r), mixed(m, r)} {
		if got, err := f(m); err != want || !none(got) {
			t.Fatalf("%s: %+v, %d, not %d", name, got, err, want)
		}
	}
}

// TestP10_1BaseWrong has any one thing be wrong, and any two: the first is told.
func TestP10_1BaseWrong(t *testing.T) { allWrong(t, reply.Base, baseFaults(), full) }

// TestP10_1BaseShort does so where nothing stands but what is needed.
func TestP10_1BaseShort(t *testing.T) { allWrong(t, reply.Base, baseFaults(), short) }

// allWrong has any one fault be made, and any two of unlike lists.
func allWrong(t *testing.T, f call, faults [][]fault, made func() draft) {
	t.Helper()
	for i, group := range faults {
		for _, x := range group {
			d := made()
			x.make(&d)
			refuses(t, f, d.msg(), x.err, x.name)
			for _, y := range slices.Concat(faults[i+1:]...) {
				// The later one is made ahead, so that it takes nothing from the first.
				d := made()
				y.make(&d)
				x.make(&d)
				refuses(t, f, d.msg(), x.err, x.name+" and "+y.name)
			}
		}
	}
}

func TestP10_1Base(t *testing.T) {
	want := api.Request{
		Method: "PUBLISH", Branch: "z9hG4bK1", SentBy: "c:5070",
		From: place(t, "Carol <sip:carol@home>;tag=1"), To: place(t, "<sip:alice@pa.home>"),
		FromTag: "1", CallID: "c1", Seq: 7, Expires: -1, Body: "body",
	}
	r := rand.New(rand.NewSource(2))
	// Of the other headers nothing is told, whatever they say.
	other := full().set("Expires", "x", "y").set("Event", "").set("Contact", "*").set("Content-Type", "", "").set("SIP-If-Match", "a b").set("Record-Route", "?").set("Accept", many(20, "a/b"))
	other.target = "no target"
	for _, d := range []draft{full(), short(), other} {
		for range 20 {
			if got, err := reply.Base(mixed(d.msg(), r)); err != api.OK || !alike(got, want) {
				t.Fatalf("Base = %+v, %d, not %+v", got, err, want)
			}
		}
	}
	d := short()
	d.target = ""
	m := d.msg()
	m.Body, m.Status, m.Reason = "", 200, "OK"
	want.Body = ""
	if got, err := reply.Base(m); err != api.OK || !alike(got, want) {
		t.Errorf("Base of a message without a body = %+v, %d", got, err)
	}
}

func TestP10_1BaseHops(t *testing.T) {
	for _, x := range []struct {
		values     []string
		branch, by string
	}{
		{[]string{"SIP/2.0/UDP c;branch=z9hG4bK1"}, "z9hG4bK1", "c:5060"},
		{[]string{"sip/2.0/udp  A.b:1 ;x;BRANCH = z9hG4bKaB"}, "z9hG4bKaB", "a.b:1"},
		{[]string{`SIP/2.0/UDP [::1];branch="z9hG4bK 1"`}, "z9hG4bK 1", "[::1]:5060"},
		{[]string{"SIP/2.0/UDP c;branch=z9hG4bK1,SIP/2.0/UDP d;branch=z9hG4bK2"}, "z9hG4bK1", "c:5060"},
		{[]string{"SIP/2.0/UDP c;branch=z9hG4bK1", "SIP/2.0/UDP d;branch=z9hG4bK2"}, "z9hG4bK1", "c:5060"},
		{[]string{"SIP/2.0/UDP c;branch=z9hG4bK1", "SIP/2.0/UDP d"}, "z9hG4bK1", "c:5060"},
		{[]string{"SIP/2.0/UDP c;branch=z9hG4bK1", many(15, "SIP/2.0/UDP d")}, "z9hG4bK1", "c:5060"},
	} {
		r, err := reply.Base(short().set("Via", x.values...).msg())
		if err != api.OK || r.Branch != x.branch || r.SentBy != x.by {
			t.Errorf("of %q: %q, %q, %d", x.values, r.Branch, r.SentBy, err)
		}
	}
}

func TestP10_1BaseAddresses(t *testing.T) {
	for _, x := range []struct{ s, tag string }{
		{"<sip:a@b>", ""},
		{"<sip:a@b>;tag", ""},
		{`<sip:a@b>;tag=""`, ""},
		{"<sip:a@b;tag=1>", ""},
		{"sip:a@b;tag=1", "1"},
		{`"A, B" <sips:a@b:1;lr?x=1> ; x ; TAG = aB`, "aB"},
		{`<sip:a@b>;x;tag="a b";y`, "a b"},
		{"<sip:a@b>" + fields(16), ""},
		{" \t<pres:a@b> ", ""},
	} {
		want := place(t, x.s)
		r, err := reply.Base(short().set("From", x.s).msg())
		if err != api.OK || !alike(api.Request{From: r.From}, api.Request{From: want}) || r.FromTag != x.tag || r.ToTag != "" {
			t.Errorf("from %q: %+v, %d", x.s, r, err)
		}
		r, err = reply.Base(short().set("To", x.s).msg())
		if err != api.OK || !alike(api.Request{To: r.To}, api.Request{To: want}) || r.ToTag != x.tag || r.FromTag != "1" {
			t.Errorf("to %q: %+v, %d", x.s, r, err)
		}
	}
}

func TestP10_1BaseNumbers(t *testing.T) {
	for _, id := range []string{"1", "a@b", "!~<\"", long(128)} {
		if r, err := reply.Base(short().set("Call-ID", id).msg()); err != api.OK || r.CallID != id {
			t.Errorf("the Call-ID %q: %q, %d", id, r.CallID, err)
		}
	}
	for _, x := range []struct {
		method, seq string
		n           int
	}{
		{"PUBLISH", "0 PUBLISH", 0},
		{"PUBLISH", " 007\t PUBLISH ", 7},
		{"publish", "2147483647 publish", 2147483647},
		{"ACK", "1 ACK", 1},
		{"-.!%*_+`'~", "1 -.!%*_+`'~", 1},
		{long(64), "1 " + long(64), 1},
	} {
		d := short().set("CSeq", x.seq)
		d.method = x.method
		if r, err := reply.Base(d.msg()); err != api.OK || r.Seq != x.n || r.Method != x.method {
			t.Errorf("%s, %q: %q, %d, %d", x.method, x.seq, r.Method, r.Seq, err)
		}
	}
	for _, method := range []string{"A B", " PUBLISH", "PUBLISH ", long(65), "é", "\x00"} {
		d := short().set("CSeq", "7 "+method)
		d.method = method
		refuses(t, reply.Base, d.msg(), api.ErrSeq, method)
	}
}

func TestP10_1BaseNothing(t *testing.T) {
	for _, m := range []api.Msg{{}, {Headers: []api.Header{}}, {Status: 200, Reason: "OK"}, {Target: "sip:a", Headers: full().msg().Headers}} {
		refuses(t, reply.Base, m, api.ErrArg, "no request")
		refuses(t, reply.Read, m, api.ErrArg, "no request")
	}
	refuses(t, reply.Base, api.Msg{Method: "A"}, api.ErrMissing, "no headers")
	// The compact forms are frame.Parse's to tell: here they are names like any other.
	m := short().msg()
	m.Headers[0].Name = "v"
	refuses(t, reply.Base, m, api.ErrMissing, "v")
	m = short().msg()
	m.Headers = append(m.Headers, head("f", "<sip:x@y>"), head("To ", "<sip:x@y>"), head("Via2", ""), head("", ""))
	if got, err := reply.Base(m); err != api.OK || got.FromTag != "1" {
		t.Errorf("with names that are none of these: %+v, %d", got, err)
	}
}
