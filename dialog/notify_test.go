package dialog_test

import (
	"math"
	"slices"
	"strconv"
	"strings"
	"testing"

	"roster/api"
	"roster/dialog"
)

// call is what Notify is given.
type call struct {
	d            api.Dialog
	host, branch string
	more         []api.Header
	body         string
}

// right is a call that is right.
func right() call {
	return call{begun(), "pa.home", "z9hG4bK1", []api.Header{{Name: "Event", Value: "presence"}}, "body"}
}

// notify calls it.
func (c call) notify() (string, api.Dialog, api.Errno) {
	return dialog.Notify(c.d, c.host, c.branch, c.more, c.body)
}

// writes asks for a message, line by line, and its body.
func writes(t *testing.T, c call, body string, lines ...string) {
	t.Helper()
	want := strings.Join(lines, "\r\n") + "\r\nContent-Length: " + strconv.Itoa(len(body)) + "\r\n\r\n" + body
	then := c.d
	then.LastOut++
	if s, d, err := c.notify(); s != want || err != api.OK || !alike(d, then) {
		t.Errorf("of %+v: %q, %+v, %d, not %q", c, s, d, err, want)
	}
}

// fails asks for a message that can't be.
func fails(t *testing.T, c call, want api.Errno) {
	t.Helper()
	if s, d, err := c.notify(); s != "" || err != want || !alike(d, c.d) {
		t.Errorf("of %s: %q, %s, %d, not %d", shown(c), s, shown(d), err, want)
	}
}

func TestP18_4Notify(t *testing.T) {
	c := right()
	writes(t, c, "body",
		"NOTIFY sip:carol@d:5070 SIP/2.0", "Via: SIP/2.0/UDP pa.home;branch=z9hG4bK1", "Max-Forwards: 70", "Route: <sip:p;lr>", "Route: <sip:q:9;lr>",
		"From: <sip:alice@pa.home>;tag=x", `To: "Carol" <sip:carol@home>;tag=1`, "Call-ID: c1", "CSeq: 1 NOTIFY", "Contact: <sip:pa.home>", "Event: presence")
	c.d.Routes, c.d.LastOut, c.d.LastIn, c.host, c.branch, c.more, c.body = nil, 41, -9, "[::1]", "z9hG4bKx", nil, ""
	writes(t, c, "",
		"NOTIFY sip:carol@d:5070 SIP/2.0", "Via: SIP/2.0/UDP [::1];branch=z9hG4bKx", "Max-Forwards: 70",
		"From: <sip:alice@pa.home>;tag=x", `To: "Carol" <sip:carol@home>;tag=1`, "Call-ID: c1", "CSeq: 42 NOTIFY", "Contact: <sip:[::1]>")
	c.d.Target = place("<sips:a%20b@D;x=1?y=2&z=>").URI
	c.d.Local, c.d.Remote = place("A b <pres:a@b:1;lr?h=1>;x;tag=\"c d\""), place("sip:e@f")
	c.d.Routes, c.d.CallID = []string{"no address, none", "", "<sip:p>,<sip:q>"}, ""
	c.host, c.branch, c.body = "h", "", "\r\n\x00é"
	c.more = []api.Header{{Name: "via", Value: "x"}, {Name: "X", Value: ""}, {Name: "CSeq", Value: "9"}, {Name: "X", Value: "a\tb"}}
	writes(t, c, "\r\n\x00é",
		"NOTIFY sips:a%20b@d;x=1?y=2&z= SIP/2.0", `Via: SIP/2.0/UDP h;branch=""`, "Max-Forwards: 70", "Route: no address, none", "Route: ", "Route: <sip:p>,<sip:q>",
		`From: "A b" <pres:a@b:1;lr?h=1>;x;tag="c d"`, "To: <sip:e@f>", "Call-ID: ", "CSeq: 42 NOTIFY", "Contact: <sip:h>", "via: x", "X: ", "CSeq: 9", "X: a\tb")
}

// TestP18_4Branch asks for branches that are no words: they stand quoted.
func TestP18_4Branch(t *testing.T) {
	for branch, want := range map[string]string{
		"z9hG4bK1": "z9hG4bK1", long(64): long(64), "a b": `"a b"`, `"`: `"\""`, "[::1]": "[::1]", "a;b": `"a;b"`, "é": `"é"`, "x": "x",
	} {
		c := right()
		c.branch = branch
		s, d, err := c.notify()
		if !strings.Contains(s, "\r\nVia: SIP/2.0/UDP pa.home;branch="+want+"\r\n") || err != api.OK || d.LastOut != 1 {
			t.Errorf("the branch %q: %q, %d", branch, s, err)
		}
	}
}

func TestP18_4Numbers(t *testing.T) {
	for _, n := range []int{0, 1, 9, 99, 1 << 20, api.MaxCSeq - 2, api.MaxCSeq - 1} {
		c := right()
		c.d.LastOut = n
		s, d, err := c.notify()
		if !strings.Contains(s, "\r\nCSeq: "+strconv.Itoa(n+1)+" NOTIFY\r\n") || err != api.OK || d.LastOut != n+1 {
			t.Errorf("behind %d: %q, %d, %d", n, s, d.LastOut, err)
		}
	}
}

// slip is a thing that is wrong with a call, and the error of that.
type slip struct {
	name string
	err  api.Errno
	make func(c *call)
}

// slips are what Notify does not take, in the chapter's order.
func slips() [][]slip {
	var numbers []slip
	for _, n := range []int{-1, -2, math.MinInt, api.MaxCSeq, api.MaxCSeq + 1, 1<<32 + 1, math.MaxInt} {
		numbers = append(numbers, slip{"LastOut " + strconv.Itoa(n), 80, func(c *call) { c.d.LastOut = n }})
	}
	return append([][]slip{numbers}, placeSlips(), hopSlips(), endSlips("Local", func(c *call) *api.Addr { return &c.d.Local }), endSlips("Remote", func(c *call) *api.Addr { return &c.d.Remote }), messageSlips())
}

// placeSlips are targets that may not be.
func placeSlips() []slip {
	target := func(err api.Errno, name string, change func(u *api.URI)) slip {
		return slip{"target: " + name, err, func(c *call) { change(&c.d.Target) }}
	}
	return []slip{
		target(30, "none", func(u *api.URI) { *u = api.URI{} }),
		target(30, "scheme", func(u *api.URI) { u.Scheme = "http" }),
		target(31, "user", func(u *api.URI) { u.User = long(65) }),
		target(32, "no host", func(u *api.URI) { u.Host = "" }),
		target(32, "host", func(u *api.URI) { u.Host = "D" }),
		target(33, "port", func(u *api.URI) { u.Port = 65536 }),
		target(34, "params", func(u *api.URI) { u.Params = counted(17) }),
		target(34, "headers", func(u *api.URI) { u.Headers = []api.Param{bare("h")} }),
	}
}

// hopSlips are hosts and branches that may not be.
func hopSlips() []slip {
	var l []slip
	for _, host := range []string{"", "A", "a b", "a:5060", "[::1", "-", "a.", long(65), "é", "a\r\n"} {
		l = append(l, slip{"host " + host, 32, func(c *call) { c.host = host }})
	}
	for _, branch := range []string{long(65), "a\n", "\r", "\x00"} {
		l = append(l, slip{"branch " + branch, 34, func(c *call) { c.branch = branch }})
	}
	return l
}

// endSlips are addresses of Local, or of Remote, that may not be.
func endSlips(name string, of func(c *call) *api.Addr) []slip {
	end := func(err api.Errno, what string, change func(a *api.Addr)) slip {
		return slip{name + ": " + what, err, func(c *call) { change(of(c)) }}
	}
	return []slip{
		end(50, "display", func(a *api.Addr) { a.Display = long(65) }),
		end(50, "display with a line's end", func(a *api.Addr) { a.Display = "a\nb" }),
		end(30, "none", func(a *api.Addr) { *a = api.Addr{} }),
		end(31, "user", func(a *api.Addr) { a.URI.User = long(65) }),
		end(32, "host", func(a *api.Addr) { a.URI.Host = "B" }),
		end(33, "port", func(a *api.Addr) { a.URI.Port = -1 }),
		end(34, "URI's params", func(a *api.Addr) { a.URI.Params = []api.Param{{Name: "a", Value: "b"}} }),
		end(34, "twice", func(a *api.Addr) { a.Params = []api.Param{with("tag", "1"), bare("TAG")} }),
		end(4, "many", func(a *api.Addr) { a.Params = counted(17) }),
	}
}

// messageSlips are of what is right alone, but not in a message.
func messageSlips() []slip {
	more := func(err api.Errno, l ...api.Header) slip {
		return slip{"more", err, func(c *call) { c.more = l }}
	}
	route := func(s string) slip {
		return slip{"the route " + s, 61, func(c *call) { c.d.Routes = append([]string{"<sip:p>"}, s) }}
	}
	return []slip{
		{"routes", 4, func(c *call) { c.d.Routes = slices.Repeat([]string{"<sip:p>"}, 57) }},
		more(4, slices.Repeat([]api.Header{{Name: "A", Value: ""}}, 56)...),
		more(4, slices.Repeat([]api.Header{{Name: "", Value: long(5000)}}, 56)...),
		more(61, api.Header{}), more(61, api.Header{Name: "a b"}), more(61, api.Header{Name: "v", Value: "x"}), more(61, api.Header{Name: "Content-Length", Value: "4"}),
		more(61, api.Header{Name: "A"}, api.Header{Name: "A", Value: " x"}), more(61, api.Header{Name: "A", Value: "x\r\nB: y"}), more(61, api.Header{Name: "A", Value: long(5000)}, api.Header{Name: long(65)}),
		route(" <sip:p>"), route("<sip:p>\t"), route("<sip:p>\r\nA: b"), route("\x7f"),
		{"Call-ID", 61, func(c *call) { c.d.CallID = "c1 " }},
		{"Call-ID", 61, func(c *call) { c.d.CallID = "c1\nd" }},
		// A name that can be written quoted, but is not visible.
		{"Local", 61, func(c *call) { c.d.Local.Display = "\x01" }},
		{"Remote", 61, func(c *call) { c.d.Remote.Params = []api.Param{with("tag", "\x7f")} }},
		{"branch", 61, func(c *call) { c.branch = "\x1f" }},
		more(2, api.Header{Name: "A", Value: long(4096)}),
		{"body", 2, func(c *call) { c.body = long(4096) }},
		{"route", 2, func(c *call) { c.d.Routes = []string{long(4096)} }},
		{"Call-ID", 2, func(c *call) { c.d.CallID = long(4096) }},
	}
}

// TestP18_4Wrong has any one thing be wrong, and any two: the first is told, and
// the dialog stands beside it as it was.
func TestP18_4Wrong(t *testing.T) {
	all := slips()
	for i, group := range all {
		for _, x := range group {
			c := right()
			x.make(&c)
			fails(t, c, x.err)
			for _, y := range slices.Concat(all[i+1:]...) {
				c := right()
				y.make(&c)
				x.make(&c)
				fails(t, c, x.err)
			}
		}
	}
	fails(t, call{}, 30)
	fails(t, call{d: api.Dialog{LastOut: -1}}, 80)
}

// TestP18_4Many asks for as many headers as there may be: 64, with seven that
// each message has.
func TestP18_4Many(t *testing.T) {
	for routes := 0; routes <= 58; routes++ {
		for _, more := range []int{56 - routes, 57 - routes, 58 - routes} {
			if more < 0 {
				continue
			}
			c := right()
			c.d.Routes = slices.Repeat([]string{"<sip:p>"}, routes)
			c.more = slices.Repeat([]api.Header{{Name: "A", Value: "b"}}, more)
			if routes+more > 57 {
				fails(t, c, 4)
				continue
			}
			s, d, err := c.notify()
			if strings.Count(s, "\nRoute: <sip:p>\r") != routes || strings.Count(s, "\nA: b\r") != more || strings.Count(s, "\n") != routes+more+10 || d.LastOut != 1 || err != api.OK {
				t.Errorf("%d routes, %d more: %q, %d", routes, more, s, err)
			}
		}
	}
}

// TestP18_4Long makes messages of 4090 to 4100 bytes.
func TestP18_4Long(t *testing.T) {
	c := right()
	c.body = long(1000)
	s, _, _ := c.notify()
	for n := 4090; n <= 4100; n++ {
		c.body = long(1000 + n - len(s))
		if n > api.MaxBytes {
			fails(t, c, 2)
			continue
		}
		if got, d, err := c.notify(); len(got) != n || !strings.HasSuffix(got, "\r\n\r\n"+c.body) || d.LastOut != 1 || err != api.OK {
			t.Errorf("%d bytes: %d, %d", n, len(got), err)
		}
	}
}
