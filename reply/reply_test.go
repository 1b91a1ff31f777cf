package reply_test

import (
	"math"
	"math/rand"
	"reflect"
	"slices"
	"strconv"
	"strings"
	"testing"
	"unsafe"

	"roster/addr"
	"roster/api"
	"roster/reply"
)

// long is a text of n bytes.
func long(n int) string { return strings.Repeat("x", n) }

// with is a parameter with a Value.
func with(name, value string) api.Param { return api.Param{Name: name, Value: value, Has: true} }

// bare is a parameter without one.
func bare(name string) api.Param { return api.Param{Name: name} }

// head is a header.
func head(name, value string) api.Header { return api.Header{Name: name, Value: value} }

// many are n texts, with commas between.
func many(n int, one string) string {
	return strings.TrimSuffix(strings.Repeat(one+",", n), ",")
}

// fields are n parameters that may stand together, each written behind a semicolon.
func fields(n int) string {
	s := ""
	for i := range n {
		s += ";p" + strconv.Itoa(i)
	}
	return s
}

// names are the headers that count, in the order in which a draft is written.
var names = []string{"Via", "From", "To", "Call-ID", "CSeq", "Expires", "Event", "Contact", "Content-Type", "SIP-If-Match", "Record-Route", "Accept"}

// draft is a request before it is written: header by header its values.
type draft struct {
	method, target string
	values         map[string][]string
}

// full is a request with each header once, all of them right.
func full() draft {
	return draft{"PUBLISH", "sip:alice@pa.home", map[string][]string{
		"Via":          {"SIP/2.0/UDP c:5070;branch=z9hG4bK1"},
		"From":         {"Carol <sip:carol@home>;tag=1"},
		"To":           {"<sip:alice@pa.home>"},
		"Call-ID":      {"c1"},
		"CSeq":         {"7 PUBLISH"},
		"Expires":      {"60"},
		"Event":        {"presence;id=1"},
		"Contact":      {"<sip:carol@c>, sip:d@e"},
		"Content-Type": {"Application/PIDF+xml ; charset=x"},
		"SIP-If-Match": {"aB"},
		"Record-Route": {"<sip:p;lr> , <sip:q>;x"},
		"Accept":       {"a/b , C/d;q=1"},
	}}
}

// short is a request with nothing but what is needed.
func short() draft {
	d := full()
	for _, name := range names[5:] {
		delete(d.values, name)
	}
	return d
}

// set is a draft with other values of a header.
func (d draft) set(name string, values ...string) draft {
	d.values[name] = values
	return d
}

// msg is the draft's message.
func (d draft) msg() api.Msg {
	m := api.Msg{Method: d.method, Target: d.target, Body: "body"}
	for _, name := range names {
		for _, value := range d.values[name] {
			m.Headers = append(m.Headers, head(name, value))
		}
	}
	return m
}

// mixed is a message with the headers of each name in their order, but those of
// unlike names in any, the names in any letters, and others between.
func mixed(m api.Msg, r *rand.Rand) api.Msg {
	rank := map[string]int{}
	for i := range names {
		rank[names[i]] = r.Intn(6)
	}
	l := slices.Clone(m.Headers)
	slices.SortStableFunc(l, func(a, b api.Header) int { return rank[a.Name] - rank[b.Name] })
	m.Headers = nil
	for _, h := range l {
		switch r.Intn(3) {
		case 0:
			h.Name = strings.ToLower(h.Name)
		case 1:
			h.Name = strings.ToUpper(h.Name)
		}
		if r.Intn(4) == 0 {
			m.Headers = append(m.Headers, head("X-Other", "x"))
		}
		m.Headers = append(m.Headers, h)
	}
	return m
}

// none tells whether a request is the zero value.
func none(r api.Request) bool { return reflect.DeepEqual(r, api.Request{}) }

// even makes lists that are empty nil, so that these are alike.
func even(r api.Request) api.Request {
	if len(r.Contact) == 0 {
		r.Contact = nil
	}
	if len(r.Routes) == 0 {
		r.Routes = nil
	}
	if len(r.Accept) == 0 {
		r.Accept = nil
	}
	r.Event.Params = evenParams(r.Event.Params)
	r.Target = evenURI(r.Target)
	r.From, r.To = evenAddr(r.From), evenAddr(r.To)
	r.Contact = slices.Clone(r.Contact)
	for i, a := range r.Contact {
		r.Contact[i] = evenAddr(a)
	}
	return r
}

// evenParams does so for parameters.
func evenParams(l []api.Param) []api.Param {
	if len(l) == 0 {
		return nil
	}
	return l
}

// evenURI does so for a URI.
func evenURI(u api.URI) api.URI {
	u.Params, u.Headers = evenParams(u.Params), evenParams(u.Headers)
	return u
}

// evenAddr does so for an address.
func evenAddr(a api.Addr) api.Addr {
	a.URI, a.Params = evenURI(a.URI), evenParams(a.Params)
	return a
}

// alike tells whether two requests are one; nil and empty lists are alike.
func alike(a, b api.Request) bool { return reflect.DeepEqual(even(a), even(b)) }

// place is an address that is right.
func place(t *testing.T, s string) api.Addr {
	t.Helper()
	a, err := addr.Parse(s)
	if err != api.OK {
		t.Fatalf("%q is no address: %d", s, err)
	}
	return a
}

// apart tells whether no byte of two texts lies in one place.
func apart(a, b string) bool {
	if a == "" || b == "" {
		return true
	}
	x, y := uintptr(unsafe.Pointer(unsafe.StringData(a))), uintptr(unsafe.Pointer(unsafe.StringData(b)))
	return x+uintptr(len(a)) <= y || y+uintptr(len(b)) <= x
}

func TestP10_3Reason(t *testing.T) {
	known := map[int]string{
		200: "OK",
		202: "Accepted",
		400: "Bad Request",
		403: "Forbidden",
		404: "Not Found",
		405: "Method Not Allowed",
		406: "Not Acceptable",
		412: "Conditional Request Failed",
		415: "Unsupported Media Type",
		423: "Interval Too Brief",
		481: "Call/Transaction Does Not Exist",
		489: "Bad Event",
		500: "Server Internal Error",
		503: "Service Unavailable",
	}
	for status := range 1000 {
		want, ok := known[status]
		if !ok {
			want = "Status " + strconv.Itoa(status)
		}
		if got := reply.Reason(status); got != want {
			t.Errorf("Reason(%d) = %q", status, got)
		}
	}
	for status, want := range map[int]string{
		1000:           "Status 1000",
		1 << 32:        "Status 4294967296",
		1<<32 + 200:    "Status 4294967496",
		math.MaxInt:    "Status 9223372036854775807",
		-1:             "Status ",
		-200:           "Status ",
		math.MinInt:    "Status ",
		-(1 << 32) + 1: "Status ",
	} {
		if got := reply.Reason(status); got != want {
			t.Errorf("Reason(%d) = %q", status, got)
		}
	}
}
