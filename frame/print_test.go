package frame_test

import (
	"slices"
	"strings"
	"testing"

	"roster/api"
	"roster/frame"
)

func TestP6_3Print(t *testing.T) {
	for _, x := range []struct {
		m    api.Msg
		want string
	}{
		{api.Msg{Method: "a", Target: "b"}, "a b SIP/2.0\r\nContent-Length: 0\r\n\r\n"},
		{api.Msg{Status: 100}, "SIP/2.0 100 \r\nContent-Length: 0\r\n\r\n"},
		{api.Msg{Status: 481, Reason: "Call/Transaction Does  Not Exist"}, "SIP/2.0 481 Call/Transaction Does  Not Exist\r\nContent-Length: 0\r\n\r\n"},
		{
			api.Msg{Method: "PUBLISH", Target: "sip:a@b", Headers: heads(head("Via", "1"), head("To", "x y"), head("via", ""), head("X", ":")), Body: "a\r\n\r\nbc"},
			"PUBLISH sip:a@b SIP/2.0\r\nVia: 1\r\nTo: x y\r\nvia: \r\nX: :\r\nContent-Length: 7\r\n\r\na\r\n\r\nbc",
		},
		{
			api.Msg{Status: 200, Reason: "OK", Headers: heads(head("B", "1"), head("A", "2"), head("B", "1")), Body: "0123456789"},
			"SIP/2.0 200 OK\r\nB: 1\r\nA: 2\r\nB: 1\r\nContent-Length: 10\r\n\r\n0123456789",
		},
		{api.Msg{Method: "a", Target: "b", Body: "\x00é\xff"}, "a b SIP/2.0\r\nContent-Length: 4\r\n\r\n\x00é\xff"},
	} {
		if got, err := frame.Print(x.m); got != x.want || err != api.OK {
			t.Errorf("Print(%+v) = %q, %d", x.m, got, err)
		}
	}
}

func TestP6_3PrintWrong(t *testing.T) {
	var all []api.Msg
	for _, x := range starts {
		all = append(all, x.m)
	}
	for _, x := range headers {
		all = append(all, asks(x.h), says(x.h))
	}
	all = append(all, asks(counted(65)...), api.Msg{Headers: counted(65)}, asks(append(counted(64), head("", ""))...))
	for _, m := range all {
		want := frame.Check(m)
		if want == api.OK {
			continue
		}
		// Check's error is told, however long the message is.
		for _, body := range []string{"", long(5000)} {
			m.Body = body
			if got, err := frame.Print(m); got != "" || err != want {
				t.Errorf("Print(%+v) = %q, %d, not %d", m, got, err, want)
			}
		}
	}
}

// TestP6_3PrintLong makes messages of 4095 to 4098 bytes, by each of their
// parts that may be long.
func TestP6_3PrintLong(t *testing.T) {
	for _, made := range []func(string) api.Msg{
		func(s string) api.Msg { return api.Msg{Method: "a", Target: s} },
		func(s string) api.Msg { return api.Msg{Status: 200, Reason: s} },
		func(s string) api.Msg { return asks(head("A", s)) },
		func(s string) api.Msg { m := says(counted(64)...); m.Body = s; return m },
	} {
		short, _ := frame.Print(made(long(1000)))
		rest := api.MaxBytes - len(short)
		for d := -1; d <= 2; d++ {
			// The digits of the length are as many as those of 1000.
			got, err := frame.Print(made(long(1000 + rest + d)))
			if d <= 0 && (err != api.OK || len(got) != api.MaxBytes+d) || d > 0 && (err != api.ErrLong || got != "") {
				t.Errorf("%d bytes: %d bytes, %d", api.MaxBytes+d, len(got), err)
			}
		}
		if got, err := frame.Print(made(long(1 << 20))); got != "" || err != api.ErrLong {
			t.Errorf("more than a million bytes: %d bytes, %d", len(got), err)
		}
	}
}

func TestRuleMemoryPrint(t *testing.T) {
	l := make([]api.Header, 2, 4)
	l[0], l[1] = head("Via", "hop"), head("To", "whom")
	spare := l[:4]
	spare[2] = head("kept", "kept")
	m := api.Msg{Method: "PUBLISH", Target: "sip:a", Headers: l, Body: "body"}
	was := slices.Clone(spare)
	one, _ := frame.Print(m)
	two, _ := frame.Print(m)
	frame.Check(m)
	for _, given := range wordsOf(m) {
		if !apart(one, given) {
			t.Errorf("what is written shares memory with %q", given)
		}
	}
	if one != two || !apart(one, two) {
		t.Error("two answers share memory")
	}
	if !slices.Equal(spare, was) {
		t.Errorf("an argument was changed: %+v", spare)
	}
}

// told are messages that may be, of all kinds.
func told() []api.Msg {
	values := []string{"", "a", ":", "a: b", "a\t b", "\"a\\\"", "SIP/2.0", "0", "é", "\xff\x80", ",;<>", long(300)}
	bodies := []string{"", "a", "\r\n", "\r\n\r\n", "\x00\x7f\xff", " a", "x: y\r\n\r\n", long(1000)}
	var all []api.Msg
	for _, x := range starts {
		if x.ok {
			all = append(all, x.m)
		}
	}
	for _, v := range values {
		for _, b := range bodies {
			all = append(all,
				api.Msg{Status: 200, Reason: v, Headers: heads(head("A", v)), Body: b},
				api.Msg{Method: "SIP", Target: "a" + strings.NewReplacer(" ", "", "\t", "").Replace(v), Headers: heads(head("Via", v), head("via", ""), head("Lengths", v)), Body: b})
		}
	}
	return append(all, asks(counted(64)...), says(counted(64)...))
}

func TestP6_6PrintParse(t *testing.T) {
	behind := []string{"", " ", "a", "\r\n", "\r\n\r\n", "a b SIP/2.0\r\n\r\n", "Content-Length: 0\r\n\r\n", "\x00\xff", long(1000)}
	printed := 0
	for _, m := range told() {
		s, err := frame.Print(m)
		if err == api.ErrLong && len(m.Target)+len(m.Reason)+len(m.Body) > 3000 {
			continue
		}
		if err != api.OK {
			t.Fatalf("Print(%+v): %d", m, err)
		}
		printed++
		for _, more := range append(behind, long(api.MaxBytes-len(s))) {
			if len(s)+len(more) > api.MaxBytes {
				continue
			}
			if got, err := frame.Parse(s + more); err != api.OK || !alike(got, m) {
				t.Fatalf("Parse(%q) = %+v, %d, not %+v", s+more, got, err, m)
			}
		}
	}
	if printed < 150 {
		t.Errorf("only %d messages are printed", printed)
	}
}

func TestP6_6Bytes(t *testing.T) {
	for i := range 256 {
		c := string([]byte{byte(i)})
		for _, s := range []string{c, c + "a", "a" + c, "a" + c + "a"} {
			for _, m := range []api.Msg{
				{Method: s, Target: "b"},
				{Method: "a", Target: s},
				{Status: 200, Reason: s},
				asks(head(s, "b"), head("B", "c")),
				says(head("A", s), head("B", "c")),
				{Method: "a", Target: "b", Body: s},
			} {
				p, err := frame.Print(m)
				if err != frame.Check(m) {
					t.Fatalf("Print(%+v): %d", m, err)
				}
				if err != api.OK {
					continue
				}
				if got, err := frame.Parse(p + s); err != api.OK || !alike(got, m) {
					t.Errorf("Parse(%q) = %+v, %d", p+s, got, err)
				}
			}
		}
	}
}
