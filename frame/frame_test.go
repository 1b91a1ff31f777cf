package frame_test

import (
	"math"
	"reflect"
	"slices"
	"strings"
	"testing"
	"unsafe"

	"roster/api"
	"roster/frame"
	"roster/scan"
)

// long is a text of n bytes.
func long(n int) string { return strings.Repeat("x", n) }

// head is a header.
func head(name, value string) api.Header { return api.Header{Name: name, Value: value} }

// heads is a list of headers.
func heads(l ...api.Header) []api.Header { return l }

// counted are n headers.
func counted(n int) []api.Header {
	var l []api.Header
	for i := range n {
		l = append(l, head("H"+scan.Digits(i), "v"+scan.Digits(i)))
	}
	return l
}

// asks is a request that may be.
func asks(l ...api.Header) api.Msg {
	return api.Msg{Method: "OPTIONS", Target: "sip:a", Headers: l}
}

// says is a response that may be.
func says(l ...api.Header) api.Msg {
	return api.Msg{Status: 200, Reason: "OK", Headers: l}
}

// alike tells whether two messages are one; nil and empty lists are alike.
func alike(a, b api.Msg) bool {
	return a.Method == b.Method && a.Target == b.Target && a.Status == b.Status && a.Reason == b.Reason &&
		slices.Equal(a.Headers, b.Headers) && a.Body == b.Body
}

// empty tells whether a message is the zero value.
func empty(m api.Msg) bool { return reflect.DeepEqual(m, api.Msg{}) }

// texts are all texts of up to so many of some pieces.
func texts(most int, pieces ...string) []string {
	all := []string{""}
	from := 0
	for range most {
		to := len(all)
		for _, s := range all[from:to] {
			for _, p := range pieces {
				all = append(all, s+p)
			}
		}
		from = to
	}
	return all
}

// apart tells whether no byte of two texts lies in one place.
func apart(a, b string) bool {
	if a == "" || b == "" {
		return true
	}
	x, y := uintptr(unsafe.Pointer(unsafe.StringData(a))), uintptr(unsafe.Pointer(unsafe.StringData(b)))
	return x+uintptr(len(a)) <= y || y+uintptr(len(b)) <= x
}

// wordsOf are all texts of a message.
func wordsOf(m api.Msg) []string {
	l := []string{m.Method, m.Target, m.Reason, m.Body}
	for _, h := range m.Headers {
		l = append(l, h.Name, h.Value)
	}
	return l
}

// isVisible says, by the document's words, whether a byte may be in a visible text.
func isVisible(i int) bool { return i >= 32 && i != 127 || i == 9 }

// forms are the compact forms of names, and their long ones.
var forms = map[string]string{
	"v": "Via", "f": "From", "t": "To", "i": "Call-ID", "m": "Contact", "e": "Content-Encoding",
	"l": "Content-Length", "c": "Content-Type", "s": "Subject", "k": "Supported", "o": "Event", "u": "Allow-Events",
}

func TestP6_1Long(t *testing.T) {
	for i := range 256 {
		c := string([]byte{byte(i)})
		want, compact := forms[strings.ToLower(c)]
		if !compact {
			want = c
		}
		if got := frame.Long(c); got != want {
			t.Errorf("Long(%q) = %q", c, got)
		}
	}
	for _, s := range []string{"", "vv", "v ", " v", "via", "VIA", "Via", "content-length", "Content-Length", "X-Any", "é", "\u212a", "a\nb", long(5000)} {
		if got := frame.Long(s); got != s {
			t.Errorf("Long(%q) = %q", s, got)
		}
	}
}

// starts are first lines that may be, and others.
var starts = []struct {
	m  api.Msg
	ok bool
}{
	{api.Msg{Method: "a", Target: "b"}, true},
	{api.Msg{Method: "SUBSCRIBE", Target: "sip:a@b;x=\"\xff\""}, true},
	{api.Msg{Method: "-.!%*_+`'~", Target: ":"}, true},
	{api.Msg{Method: long(64), Target: long(5000)}, true},
	{api.Msg{Method: long(65), Target: "b"}, false},
	{api.Msg{Method: "a b", Target: "b"}, false},
	{api.Msg{Method: " a", Target: "b"}, false},
	{api.Msg{Method: "SIP/2.0", Target: "b"}, false},
	{api.Msg{Method: "é", Target: "b"}, false},
	{api.Msg{Method: "a"}, false},
	{api.Msg{Method: "a", Target: " "}, false},
	{api.Msg{Method: "a", Target: "b c"}, false},
	{api.Msg{Method: "a", Target: "b\tc"}, false},
	{api.Msg{Method: "a", Target: "b "}, false},
	{api.Msg{Method: "a", Target: "b\n"}, false},
	{api.Msg{Method: "a", Target: "b\x7f"}, false},
	{api.Msg{Method: "a", Target: "b", Status: 200}, false},
	{api.Msg{Method: "a", Target: "b", Status: -1}, false},
	{api.Msg{Method: "a", Target: "b", Reason: "c"}, false},
	{api.Msg{Method: "a", Status: 200}, false},
	{api.Msg{Status: 100}, true},
	{api.Msg{Status: 699, Reason: "a\t b  c"}, true},
	{api.Msg{Status: 200, Reason: "é\xff"}, true},
	{api.Msg{}, false},
	{api.Msg{Target: "b"}, false},
	{api.Msg{Status: 99}, false},
	{api.Msg{Status: 700}, false},
	{api.Msg{Status: -200}, false},
	{api.Msg{Status: math.MaxInt}, false},
	{api.Msg{Status: math.MinInt}, false},
	{api.Msg{Status: 200, Target: "b"}, false},
	{api.Msg{Status: 200, Reason: " "}, false},
	{api.Msg{Status: 200, Reason: " a"}, false},
	{api.Msg{Status: 200, Reason: "a\t"}, false},
	{api.Msg{Status: 200, Reason: "a\r\nb"}, false},
	{api.Msg{Status: 200, Reason: "a\x00"}, false},
	{api.Msg{Status: 200, Reason: "\x7f"}, false},
}

func TestP6_2CheckStart(t *testing.T) {
	for _, x := range starts {
		for _, l := range [][]api.Header{nil, {}, counted(64)} {
			m := x.m
			m.Headers = l
			want := api.OK
			if !x.ok {
				want = api.ErrStart
			}
			if err := frame.Check(m); err != want {
				t.Errorf("Check(%+v) = %d, not %d", m, err, want)
			}
		}
	}
	for status := -1; status < 1100; status++ {
		want := api.ErrStart
		if status >= 100 && status <= 699 {
			want = api.OK
		}
		if err := frame.Check(api.Msg{Status: status}); err != want {
			t.Errorf("the Status %d: %d", status, err)
		}
	}
}

// headers are headers that may be, and others.
var headers = []struct {
	h  api.Header
	ok bool
}{
	{head("Via", ""), true},
	{head("via", "a"), true},
	{head("x", "a\t b: c"), true},
	{head("Call-ID", "é\xff"), true},
	{head(long(64), long(5000)), true},
	{head("-.!%*_+`'~", ":"), true},
	{head("Content-Lengths", "1"), true},
	{head("Content-Type", "1"), true},
	{head("", "a"), false},
	{head(long(65), "a"), false},
	{head("a b", "a"), false},
	{head(" a", "a"), false},
	{head("a ", "a"), false},
	{head("a:", "a"), false},
	{head("é", "a"), false},
	{head("v", "a"), false},
	{head("V", "a"), false},
	{head("l", "1"), false},
	{head("u", "a"), false},
	{head("Content-Length", "0"), false},
	{head("content-length", "0"), false},
	{head("CONTENT-LENGTH", "a"), false},
	{head("Via", " "), false},
	{head("Via", " a"), false},
	{head("Via", "a\t"), false},
	{head("Via", "a\r\nb"), false},
	{head("Via", "a\x00b"), false},
	{head("Via", "a\x7f"), false},
}

func TestP6_2CheckHeader(t *testing.T) {
	for _, x := range headers {
		want := api.OK
		if !x.ok {
			want = api.ErrHeader
		}
		for _, m := range []api.Msg{asks(x.h), says(x.h), says(head("A", "b"), x.h), asks(x.h, head("A", "b"))} {
			if err := frame.Check(m); err != want {
				t.Errorf("Check(%+v) = %d, not %d", m, err, want)
			}
		}
	}
	for short := range forms {
		if err := frame.Check(asks(head(short, ""))); err != api.ErrHeader {
			t.Errorf("the name %s: %d", short, err)
		}
	}
}

func TestP6_2CheckFirst(t *testing.T) {
	wrong := head("", "")
	for _, x := range []struct {
		m   api.Msg
		err api.Errno
	}{
		{asks(counted(64)...), api.OK},
		{asks(counted(65)...), api.ErrMany},
		{says(counted(5000)...), api.ErrMany},
		{says(append(counted(63), wrong)...), api.ErrHeader},
		{says(append(heads(wrong), counted(64)...)...), api.ErrMany},
		{api.Msg{Headers: counted(65)}, api.ErrStart},
		{api.Msg{Headers: heads(wrong)}, api.ErrStart},
		{api.Msg{Method: "a", Headers: append(counted(64), wrong)}, api.ErrStart},
	} {
		if err := frame.Check(x.m); err != x.err {
			t.Errorf("Check(%+v) = %d, not %d", x.m, err, x.err)
		}
	}
	// A Body may be whatever it is, and is not measured here.
	for _, body := range []string{"\x00\r\n\r\n", long(5000)} {
		m := asks()
		m.Body = body
		if err := frame.Check(m); err != api.OK {
			t.Errorf("a Body %.20q: %d", body, err)
		}
	}
}

func TestP6_2CheckBytes(t *testing.T) {
	expect := func(m api.Msg, ok bool, wrong api.Errno) {
		t.Helper()
		want := api.OK
		if !ok {
			want = wrong
		}
		if err := frame.Check(m); err != want {
			t.Errorf("Check(%+v) = %d, not %d", m, err, want)
		}
	}
	for i := range 256 {
		c := string([]byte{byte(i)})
		blank := i == 32 || i == 9
		token := scan.Token(c)
		expect(api.Msg{Method: "a" + c, Target: "b"}, token, api.ErrStart)
		expect(api.Msg{Method: "a", Target: "b" + c + "b"}, isVisible(i) && !blank, api.ErrStart)
		expect(says(head("a"+c, "b")), token, api.ErrHeader)
		for _, s := range []string{c, c + "b", "b" + c} {
			expect(api.Msg{Status: 200, Reason: s}, isVisible(i) && !blank, api.ErrStart)
			expect(asks(head("A", s)), isVisible(i) && !blank, api.ErrHeader)
		}
		expect(api.Msg{Status: 200, Reason: "b" + c + "b"}, isVisible(i), api.ErrStart)
		expect(asks(head("A", "b"+c+"b")), isVisible(i), api.ErrHeader)
	}
}

func TestP6_5All(t *testing.T) {
	m := asks(head("Via", "1"), head("To", "x"), head("VIA", ""), head("via", "3"), head("Vi", "4"), head("Viaa", "5"), head("To", "x"), head("v", "6"), head("Event", "e"), head("", "7"), head("É", "8"))
	for name, want := range map[string][]string{
		"Via":   {"1", "", "3"},
		"vIa":   {"1", "", "3"},
		"v":     {"6"},
		"V":     {"6"},
		"To":    {"x", "x"},
		"to":    {"x", "x"},
		"t":     nil,
		"EVENT": {"e"},
		"o":     nil,
		"Via ":  nil,
		"From":  nil,
		"":      {"7"},
		"É":     {"8"},
		"é":     nil,
	} {
		if got := frame.All(m, name); !slices.Equal(got, want) {
			t.Errorf("All(%q) = %q", name, got)
		}
		got, ok := frame.One(m, name)
		if len(want) == 1 && (got != want[0] || !ok) || len(want) != 1 && (got != "" || ok) {
			t.Errorf("One(%q) = %q, %v", name, got, ok)
		}
	}
	if got, ok := frame.One(asks(head("To", "")), "to"); got != "" || !ok {
		t.Errorf("an empty value that stands once: %q, %v", got, ok)
	}
	if got := frame.All(api.Msg{}, ""); len(got) != 0 {
		t.Errorf("of nothing: %q", got)
	}
	// Of what may not be, too, values are told.
	many := api.Msg{Headers: counted(100)}
	if got, ok := frame.One(many, "h99"); got != "v99" || !ok {
		t.Errorf("the hundredth: %q, %v", got, ok)
	}
	// Names that are told as many times as there are headers.
	for n := range 5 {
		got := frame.All(asks(slices.Repeat(heads(head("A", "b")), n)...), "a")
		if len(got) != n {
			t.Errorf("%d of %d", len(got), n)
		}
		if _, ok := frame.One(asks(slices.Repeat(heads(head("A", "b")), n)...), "a"); ok != (n == 1) {
			t.Errorf("the only one of %d: %v", n, ok)
		}
	}
}

func TestRuleMemoryFound(t *testing.T) {
	name, value := strings.Clone("From"), strings.Clone("value")
	if got := frame.Long(name); !apart(got, name) {
		t.Error("Long's answer lies in its argument")
	}
	l := make([]api.Header, 1, 3)
	l[0] = head(name, value)
	spare := l[:3]
	spare[1] = head("From", "kept")
	m := asks(l...)
	all := frame.All(m, name)
	one, _ := frame.One(m, name)
	again := frame.All(m, name)
	if len(all) != 1 || !apart(all[0], value) || !apart(one, value) || !apart(one, all[0]) || !apart(again[0], all[0]) {
		t.Error("a value that was found lies in the message, or in another answer")
	}
	all[0] = "changed"
	if again[0] != "value" || l[0] != head("From", "value") || spare[1] != head("From", "kept") || spare[2] != (api.Header{}) {
		t.Errorf("an argument was changed: %+v", spare)
	}
}
