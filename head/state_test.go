package head_test

import (
	"math"
	"strconv"
	"strings"
	"testing"

	"roster/api"
	"roster/head"
	"roster/scan"
)

// state is a state.
func state(name string, expires int, reason string) api.State {
	return api.State{Name: name, Expires: expires, Reason: reason}
}

func TestP8_4State(t *testing.T) {
	for _, x := range []struct {
		s    string
		want api.State
	}{
		{"Active ;expires=60", state("active", 60, "")},
		{"active", state("active", -1, "")},
		{" \tPENDING\t ", state("pending", -1, "")},
		{"Terminated;reason=timeout", state("terminated", -1, "timeout")},
		{"terminated;Reason=NoResource;EXPIRES=0", state("terminated", 0, "NoResource")},
		{"terminated;expires=7;x=y;reason=a;z", state("terminated", 7, "a")},
		{"other.-!%*_+`'~0", state("other.-!%*_+`'~0", -1, "")},
		{"active;retry-after=9;expire=1;reasons=b", state("active", -1, "")},
		{`active;expires="60";reason="a"`, state("active", 60, "a")},
		{"active;expires=\" \t60 \"", state("active", 60, "")},
		{"active;expires=007", state("active", 7, "")},
		{"active;expires=2147483647", state("active", 2147483647, "")},
		{"active;expires=2147483648", state("active", 2147483647, "")},
		{"active;expires=99999999999999999999", state("active", 2147483647, "")},
		{"active;reason", state("active", -1, "")},
		{`active;reason=""`, state("active", -1, "")},
		{"active;reason=" + long(64), state("active", -1, long(64))},
		{long(64), state(long(64), -1, "")},
		{"a" + manyFields(16), state("a", -1, "")},
	} {
		if got, err := head.State(x.s); err != api.OK || got != x.want {
			t.Errorf("State(%q) = %+v, %d", x.s, got, err)
		}
	}
}

func TestP8_4StateWrong(t *testing.T) {
	for _, s := range []string{
		"", " ", ";expires=1", "a b", "a/b", `"active"`, "é", "active\n", long(65),
		"active;", "active;;expires=1", "active;expires=", "active;reason=", "active;x=<b>", `active;x="b`, "active;x;X", "active;expires=1;Expires=1", "active;reason;reason",
		"active;reason=" + long(65), "active;x=" + long(65), "a" + manyFields(17),
		`active;reason="a b"`, `active;reason=" "`, `active;reason="a;b"`, `active;reason="é"`, "active;reason=[::1]", `active;reason="\""`,
		"active;expires", `active;expires=""`, `active;expires=" "`, "active;expires=-1", "active;expires=1s", "active;expires=x", `active;expires="1 2"`, "active;expires=[::1]", "active;expires=1.5", "active;expires=99999999999999999999x",
		`active;reason="a b";expires=x`,
	} {
		if got, err := head.State(s); err != api.ErrState || got != (api.State{}) {
			t.Errorf("State(%q) = %+v, %d", s, got, err)
		}
	}
}

// readState is a second reader of states: an event, and its parameters one by one.
func readState(s string) (api.State, bool) {
	v, ok := read(s)
	if !ok {
		return api.State{}, false
	}
	got := state(strings.ToLower(v.Name), -1, "")
	for _, p := range v.Params {
		switch strings.ToLower(p.Name) {
		case "reason":
			got.Reason = p.Value
			ok = ok && (p.Value == "" || scan.Token(p.Value))
		case "expires":
			digits := strings.Trim(p.Value, " \t")
			// Beyond what fits ParseUint answers the most that does.
			n, _ := strconv.ParseUint(digits, 10, 31)
			got.Expires = int(n)
			ok = ok && digits != "" && strings.Trim(digits, "0123456789") == ""
		}
	}
	return got, ok
}

func TestP8_4StateMany(t *testing.T) {
	right := 0
	for _, s := range texts(6, "A", ";Reason=", ";eXpires=", "9", `"`, " ", ";x", "99999999999") {
		s = "Is" + s
		want, ok := readState(s)
		got, err := head.State(s)
		if (err == api.OK) != ok || ok && got != want || !ok && (err != api.ErrState || got != (api.State{})) {
			t.Fatalf("State(%q) = %+v, %d", s, got, err)
		}
		if ok {
			right++
		}
	}
	if right < 200 {
		t.Errorf("only %d texts are states", right)
	}
}

func TestP8_4Show(t *testing.T) {
	for _, x := range []struct {
		v    api.State
		want string
	}{
		{state("active", -1, ""), "active"},
		{state("active", 0, ""), "active;expires=0"},
		{state("active", 60, ""), "active;expires=60"},
		{state("terminated", -1, "timeout"), "terminated;reason=timeout"},
		{state("terminated", 7, "NoResource"), "terminated;reason=NoResource;expires=7"},
		{state("other.-!%*_+`'~0", 2147483647, "-.!%*_+`'~"), "other.-!%*_+`'~0;reason=-.!%*_+`'~;expires=2147483647"},
		{state(long(64), -1, long(64)), long(64) + ";reason=" + long(64)},
		{api.State{Name: "a"}, "a;expires=0"},
	} {
		if got, err := head.Show(x.v); got != x.want || err != api.OK {
			t.Errorf("Show(%+v) = %q, %d", x.v, got, err)
		}
	}
	for _, v := range []api.State{
		{}, state("", -1, ""), state("Active", -1, ""), state("activE", 1, "a"), state("ACTIVE", -1, ""), state(" active", -1, ""), state("active ", -1, ""), state("a b", -1, ""),
		state("a;b", -1, ""), state("a/b", -1, ""), state("é", -1, ""), state(long(65), -1, ""),
		state("active", -2, ""), state("active", math.MinInt, ""), state("active", 1<<31, ""), state("active", 1<<32, ""), state("active", math.MaxInt, ""),
		state("active", -1, " "), state("active", -1, "a b"), state("active", -1, "a;b"), state("active", -1, "é"), state("active", -1, "[::1]"), state("active", -1, "\n"), state("active", 5, long(65)),
	} {
		if got, err := head.Show(v); got != "" || err != api.ErrState {
			t.Errorf("Show(%+v) = %q, %d", v, got, err)
		}
	}
}

func TestP8_4ShowBytes(t *testing.T) {
	for i := range 256 {
		c := string([]byte{byte(i)})
		token := scan.Class(byte(i))&scan.Tokens != 0
		for _, x := range []struct {
			v    api.State
			want bool
		}{
			{state(c, -1, ""), token && !(i >= 'A' && i <= 'Z')},
			{state("a"+c, 5, "b"), token && !(i >= 'A' && i <= 'Z')},
			{state("a", -1, c), token},
			{state("a", 5, "b"+c), token},
		} {
			s, err := head.Show(x.v)
			if (err == api.OK) != x.want || !x.want && (err != api.ErrState || s != "") {
				t.Errorf("Show(%+v) = %q, %d", x.v, s, err)
			}
			if err != api.OK {
				continue
			}
			if got, err := head.State(s); err != api.OK || got != x.v {
				t.Errorf("P8.6: State(%q) = %+v, %d", s, got, err)
			}
		}
	}
}

func TestP8_6Show(t *testing.T) {
	for _, name := range []string{"active", "pending", "terminated", "a", "0-.!%*_+`'~", long(64)} {
		for _, expires := range []int{-1, 0, 1, 9, 10, 60, 3600, 1<<31 - 2, 1<<31 - 1} {
			for _, reason := range []string{"", "timeout", "noResource", "0", "-1", "expires", long(64)} {
				v := state(name, expires, reason)
				s, err := head.Show(v)
				if err != api.OK {
					t.Fatalf("Show(%+v): %d", v, err)
				}
				for _, written := range []string{s, " " + strings.ReplaceAll(s, ";", "\t; ") + "\t"} {
					if got, err := head.State(written); err != api.OK || got != v {
						t.Fatalf("State(%q) = %+v, %d, not %+v", written, got, err, v)
					}
				}
			}
		}
	}
}

func TestP8_6State(t *testing.T) {
	for _, text := range texts(6, "A", ";Reason=", ";eXpires=", "9", `"`, " ", ";x", "99999999999") {
		v, err := head.State("Is" + text)
		if err != api.OK {
			continue
		}
		s, err := head.Show(v)
		if err != api.OK {
			t.Fatalf("%q is read as %+v, which can't be written: %d", text, v, err)
		}
		if got, err := head.State(s); err != api.OK || got != v {
			t.Fatalf("%q is written as %q, and read as %+v, %d", text, s, got, err)
		}
	}
}

func TestRuleMemoryState(t *testing.T) {
	s := strings.Clone("terminated;reason=timeout;expires=60")
	v, err := head.State(s)
	if err != api.OK {
		t.Fatal(err)
	}
	again, _ := head.State(s)
	if !apart(v.Name, s) || !apart(v.Reason, s) || !apart(v.Name, again.Name) || !apart(v.Reason, again.Reason) {
		t.Error("a state shares memory")
	}
	for _, w := range []api.State{v, state(v.Name, -1, ""), state(v.Name, 5, ""), state(v.Name, -1, v.Reason)} {
		one, _ := head.Show(w)
		two, _ := head.Show(w)
		if one == "" || !apart(one, w.Name) || !apart(one, w.Reason) || !apart(one, two) {
			t.Errorf("%q shares memory", one)
		}
	}
}
