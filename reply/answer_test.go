package reply_test

import (
	"math"
	"math/rand"
	"reflect"
	"slices"
	"strings"
	"testing"

	"roster/addr"
	"roster/api"
	"roster/frame"
	"roster/reply"
	"roster/via"
)

// rest is what stands behind To in an answer to a full request.
const rest = "Call-ID: c1\r\nCSeq: 7 PUBLISH\r\n"

// front is what stands ahead of To, with a first line.
func front(start string) string {
	return start + "\r\nVia: SIP/2.0/UDP c:5070;branch=z9hG4bK1\r\nFrom: Carol <sip:carol@home>;tag=1\r\n"
}

// last is what stands at the end of an answer.
const last = "Content-Length: 0\r\n\r\n"

func TestP10_4Answer(t *testing.T) {
	for _, x := range []struct {
		to     string
		status int
		tag    string
		more   []api.Header
		want   string
	}{
		{"<sip:a@b>", 200, "x", nil, front("SIP/2.0 200 OK") + "To: <sip:a@b>;tag=x\r\n" + rest + last},
		{"<sip:a@b>", 202, "x", []api.Header{}, front("SIP/2.0 202 Accepted") + "To: <sip:a@b>;tag=x\r\n" + rest + last},
		{"<sip:a@b>", 503, "", nil, front("SIP/2.0 503 Service Unavailable") + "To: <sip:a@b>\r\n" + rest + last},
		{"<sip:a@b>;tag=y", 200, "x", nil, front("SIP/2.0 200 OK") + "To: <sip:a@b>;tag=y\r\n" + rest + last},
		{"<sip:a@b>;TAG = y", 200, "x", nil, front("SIP/2.0 200 OK") + "To: <sip:a@b>;TAG = y\r\n" + rest + last},
		{"<sip:a@b>;tag=y", 200, "", nil, front("SIP/2.0 200 OK") + "To: <sip:a@b>;tag=y\r\n" + rest + last},
		{"sip:a@b", 299, "x", nil, front("SIP/2.0 299 Status 299") + "To: sip:a@b;tag=x\r\n" + rest + last},
		{`"A;tag=1"   <sip:a@b;tag=2> ; x`, 100, "aB.-9", nil, front("SIP/2.0 100 Status 100") + `To: "A;tag=1"   <sip:a@b;tag=2> ; x;tag=aB.-9` + "\r\n" + rest + last},
		{"<sip:a@b>", 699, long(64), nil, front("SIP/2.0 699 Status 699") + "To: <sip:a@b>;tag=" + long(64) + "\r\n" + rest + last},
		// A tag that is empty is none.
		{"<sip:a@b>;tag", 200, "x", nil, front("SIP/2.0 200 OK") + "To: <sip:a@b>;tag;tag=x\r\n" + rest + last},
		{"<sip:a@b>;tag", 200, "", nil, front("SIP/2.0 200 OK") + "To: <sip:a@b>;tag\r\n" + rest + last},
		{"<sip:a@b>" + fields(16), 200, "x", nil, front("SIP/2.0 200 OK") + "To: <sip:a@b>" + fields(16) + ";tag=x\r\n" + rest + last},
		{"<sip:a@b>", 423, "x", []api.Header{head("Min-Expires", "60"), head("To", "z"), head("A", ""), head("To", "z")},
			front("SIP/2.0 423 Interval Too Brief") + "To: <sip:a@b>;tag=x\r\n" + rest + "Min-Expires: 60\r\nTo: z\r\nA: \r\nTo: z\r\n" + last},
	} {
		m := full().set("To", x.to).msg()
		if got, err := reply.Answer(m, x.status, x.tag, x.more); got != x.want || err != api.OK {
			t.Errorf("to %q, %d, %q: %q, %d, not %q", x.to, x.status, x.tag, got, err, x.want)
		}
	}
}

// TestP10_4AnswerHeaders has the headers stand in any order and letters: they
// are written in the answer's own order, by their own names, as they stand.
func TestP10_4AnswerHeaders(t *testing.T) {
	d := full().set("Via", "sip/2.0/udp  C:5070 ; branch=z9hG4bK1 , SIP/2.0/UDP d", "SIP/2.0/UDP e", "SIP/2.0/UDP e")
	d.set("From", "sip:carol@home;x=\"a  b\" ;tag=1").set("Call-ID", "a@B").set("CSeq", "007\tPUBLISH")
	want := "SIP/2.0 200 OK\r\nVia: sip/2.0/udp  C:5070 ; branch=z9hG4bK1 , SIP/2.0/UDP d\r\nVia: SIP/2.0/UDP e\r\nVia: SIP/2.0/UDP e\r\n" +
		"From: sip:carol@home;x=\"a  b\" ;tag=1\r\nTo: <sip:alice@pa.home>;tag=x\r\nCall-ID: a@B\r\nCSeq: 007\tPUBLISH\r\nExpires: 1\r\n" + last
	r := rand.New(rand.NewSource(5))
	for range 100 {
		if got, err := reply.Answer(mixed(d.msg(), r), 200, "x", []api.Header{head("Expires", "1")}); got != want || err != api.OK {
			t.Fatalf("Answer = %q, %d, not %q", got, err, want)
		}
	}
	// What Read alone does not take is answered, too.
	for _, x := range slices.Concat(readFaults()...) {
		d := full()
		x.make(&d)
		if _, err := reply.Answer(d.msg(), 400, "x", nil); err != api.OK {
			t.Errorf("%s: %d", x.name, err)
		}
	}
}

func TestP10_4AnswerWrong(t *testing.T) {
	wrongMore := []api.Header{head("", "")}
	for _, status := range []int{math.MinInt, -200, -1, 0, 1, 99, 700, 701, 1000, 1<<32 + 200, math.MaxInt} {
		if got, err := reply.Answer(full().msg(), status, "x", wrongMore); got != "" || err != api.ErrArg {
			t.Errorf("the status %d: %q, %d", status, got, err)
		}
	}
	for _, tag := range []string{" ", "a b", "a;b", `"a"`, "a ", "\r\n", "é", "[::1]", "a=b", long(65)} {
		for _, to := range []string{"<sip:a@b>", "<sip:a@b>;tag=y"} {
			if got, err := reply.Answer(full().set("To", to).msg(), 200, tag, wrongMore); got != "" || err != api.ErrArg {
				t.Errorf("the tag %q: %q, %d", tag, got, err)
			}
		}
	}
	// Base's error is told ahead of all others.
	for _, x := range slices.Concat(baseFaults()...) {
		d := full()
		x.make(&d)
		for _, status := range []int{200, 99} {
			for _, tag := range []string{"x", "a b"} {
				if got, err := reply.Answer(d.msg(), status, tag, wrongMore); got != "" || err != x.err {
					t.Errorf("%s: %q, %d, not %d", x.name, got, err, x.err)
				}
			}
		}
	}
}

func TestP10_4AnswerStatuses(t *testing.T) {
	for status := -5; status < 1005; status++ {
		got, err := reply.Answer(full().msg(), status, "", nil)
		if status < 100 || status > 699 {
			if got != "" || err != api.ErrArg {
				t.Errorf("the status %d: %q, %d", status, got, err)
			}
			continue
		}
		m, parseErr := frame.Parse(got)
		if err != api.OK || parseErr != api.OK || m.Status != status || m.Reason != reply.Reason(status) {
			t.Errorf("the status %d: %q, %d, %d", status, got, err, parseErr)
		}
	}
}

func TestP10_4AnswerPrint(t *testing.T) {
	more := func(n int) []api.Header { return slices.Repeat([]api.Header{head("A", "")}, n) }
	m := full().msg()
	for _, x := range []struct {
		m    api.Msg
		more []api.Header
		err  api.Errno
	}{
		{m, more(59), api.OK},
		{m, more(60), api.ErrMany},
		{full().set("Via", "SIP/2.0/UDP c;branch=z9hG4bK1", "SIP/2.0/UDP d").msg(), more(59), api.ErrMany},
		{m, append(more(59), head("", "")), api.ErrMany},
		{m, []api.Header{head("", "")}, api.ErrHeader},
		{m, []api.Header{head("A B", "")}, api.ErrHeader},
		{m, []api.Header{head("v", "x")}, api.ErrHeader},
		{m, []api.Header{head("content-length", "0")}, api.ErrHeader},
		{m, []api.Header{head("A", "b\r\nC: d")}, api.ErrHeader},
		{m, []api.Header{head("A", " b")}, api.ErrHeader},
		{m, []api.Header{head("A", long(5000)), head("A", "b ")}, api.ErrHeader},
		{m, []api.Header{head("A", long(5000))}, api.ErrLong},
		// What stands in the request is taken as it stands, with what may not be printed.
		{full().set("To", " <sip:a@b>").msg(), nil, api.ErrHeader},
		{full().set("From", "<sip:a@b>;tag=1 ").msg(), nil, api.ErrHeader},
		{full().set("CSeq", "7 PUBLISH\t").msg(), nil, api.ErrHeader},
		{full().set("Via", " SIP/2.0/UDP c;branch=z9hG4bK1").msg(), nil, api.ErrHeader},
		{full().set("From", "\"\\\x01\" <sip:a@b>;tag=1").msg(), nil, api.ErrHeader},
		{full().set("To", "<sip:a@b>;tag=y ").msg(), nil, api.ErrHeader},
		{full().set("To", "<sip:a@b> ").msg(), nil, api.OK},
	} {
		if got, err := reply.Answer(x.m, 200, "x", x.more); err != x.err || (got == "") != (err != api.OK) {
			t.Errorf("Answer(%+v, %.200v) = %q, %d, not %d", x.m, x.more, got, err, x.err)
		}
	}
}

// TestP10_4AnswerLong makes answers of 4095 to 4097 bytes.
func TestP10_4AnswerLong(t *testing.T) {
	made := func(n int) (string, api.Errno) {
		return reply.Answer(full().msg(), 200, "x", []api.Header{head("A", long(n))})
	}
	s, _ := made(1)
	room := api.MaxBytes - len(s) + 1
	for d := -1; d <= 1; d++ {
		got, err := made(room + d)
		if d <= 0 && (err != api.OK || len(got) != api.MaxBytes+d) || d > 0 && (err != api.ErrLong || got != "") {
			t.Errorf("%d bytes: %d bytes, %d", api.MaxBytes+d, len(got), err)
		}
	}
}

// follows asks whether an answer is what P10.5 says of it.
func follows(t *testing.T, m api.Msg, status int, tag, s string) {
	t.Helper()
	got, err := frame.Parse(s)
	if err != api.OK || got.Method != "" || got.Status != status || got.Body != "" {
		t.Fatalf("%q is no such answer: %d", s, err)
	}
	asked, _ := via.List(m)
	if hops, err := via.List(got); err != api.OK || !reflect.DeepEqual(hops, asked) {
		t.Fatalf("the hops of %q are others than those of %+v", s, m)
	}
	for _, name := range []string{"From", "Call-ID", "CSeq"} {
		want, _ := frame.One(m, name)
		if value, ok := frame.One(got, name); !ok || value != want {
			t.Fatalf("%s of %q is another one than that of %+v", name, s, m)
		}
	}
	r, _ := reply.Base(m)
	if r.ToTag != "" {
		tag = r.ToTag
	}
	value, _ := frame.One(got, "To")
	if to, err := addr.Parse(value); err != api.OK || addr.Tag(to) != tag || !reflect.DeepEqual(to.URI, r.To.URI) || to.Display != r.To.Display {
		t.Fatalf("To of %q: %d, not with the tag %q", s, err, tag)
	}
}

func TestP10_5Answer(t *testing.T) {
	hops := [][]string{
		{"SIP/2.0/UDP c;branch=z9hG4bK1"},
		{"SIP/2.0/UDP c:5070;branch=z9hG4bK1;rport , sip/2.0/udp D", "SIP/2.0/UDP [::1]:1;x=\"a,b\""},
		{"SIP/2.0/UDP c;branch=z9hG4bK1", many(15, "SIP/2.0/UDP d")},
	}
	ends := []string{"<sip:a@b>", "sip:a@b", "A b  <sip:a@b;x?y=1>", `"<;tag=1>" <sip:a@b;tag=2>`, "<sip:a@b> ; x=\"a;tag=3\"", "<sip:a@b>" + fields(15)}
	for _, way := range hops {
		for _, from := range ends {
			for _, to := range ends {
				for _, behind := range []string{"", ";tag=y", ";Tag=\"a b\"", " ; tag = Z"} {
					m := full().set("Via", way...).set("From", from+behind).set("To", to+behind).msg()
					for _, tag := range []string{"", "x", long(64)} {
						s, err := reply.Answer(m, 481, tag, []api.Header{head("Expires", "1")})
						if err != api.OK {
							t.Fatalf("Answer(%+v): %d", m, err)
						}
						follows(t, m, 481, tag, s)
					}
				}
			}
		}
	}
}

// TestP10_5AnswerMany does so with messages that are partly wrong.
func TestP10_5AnswerMany(t *testing.T) {
	r := rand.New(rand.NewSource(6))
	right := 0
	for range 10000 {
		m := some(r)
		_, want := reply.Base(m)
		status := 100 + r.Intn(600)
		s, err := reply.Answer(m, status, "x", nil)
		if err != want || (s == "") != (err != api.OK) {
			t.Fatalf("Answer(%+v) = %q, %d, not %d", m, s, err, want)
		}
		if err == api.OK {
			right++
			follows(t, m, status, "x", s)
		}
	}
	if right < 3000 {
		t.Errorf("only %d messages are right", right)
	}
}

func TestRuleMemoryAnswer(t *testing.T) {
	m := full().msg()
	l := make([]api.Header, 2, 4)
	l[0], l[1] = head("A", strings.Clone("more of it")), head("B", "")
	spare := l[:4]
	spare[2] = head("kept", "kept")
	was, headers := slices.Clone(spare), slices.Clone(m.Headers)
	tag := strings.Clone("some-tag")
	one, _ := reply.Answer(m, 200, tag, l)
	two, _ := reply.Answer(m, 200, tag, l)
	if one != two || one == "" || !apart(one, two) {
		t.Error("two answers share memory")
	}
	for _, given := range append(textsOf(reflect.ValueOf(m)), tag, l[0].Value) {
		if !apart(one, given) {
			t.Errorf("an answer shares memory with %q", given)
		}
	}
	if !slices.Equal(spare, was) || !slices.Equal(m.Headers, headers) {
		t.Errorf("an argument was changed: %+v, %+v", spare, m.Headers)
	}
}
