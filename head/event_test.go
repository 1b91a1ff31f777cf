package head_test

import (
	"reflect"
	"regexp"
	"slices"
	"strings"
	"testing"

	"roster/addr"
	"roster/api"
	"roster/head"
	"roster/scan"
)

// with is a parameter with a Value.
func with(name, value string) api.Param { return api.Param{Name: name, Value: value, Has: true} }

// bare is a parameter without one.
func bare(name string) api.Param { return api.Param{Name: name} }

// event is an event.
func event(name string, l ...api.Param) api.Event { return api.Event{Name: name, Params: l} }

// counted are n parameters that may stand together.
func counted(n int) []api.Param {
	var l []api.Param
	for i := range n {
		l = append(l, bare("p"+scan.Digits(i)))
	}
	return l
}

// manyFields are n parameters that may stand together, each written behind a semicolon.
func manyFields(n int) string {
	s := ""
	for i := range n {
		s += ";p" + scan.Digits(i)
	}
	return s
}

// alike tells whether two events are one in all; nil and empty lists are alike.
func alike(a, b api.Event) bool { return a.Name == b.Name && slices.Equal(a.Params, b.Params) }

func TestP8_3Event(t *testing.T) {
	for _, x := range []struct {
		s    string
		want api.Event
	}{
		{"presence", event("presence")},
		{" \tpresence\t ", event("presence")},
		{"Presence.WInfo", event("Presence.WInfo")},
		{"presence;id=1", event("presence", with("id", "1"))},
		{"presence \t; \tid\t = 1 ", event("presence", with("id", "1"))},
		{"presence;ID=aB;x", event("presence", with("ID", "aB"), bare("x"))},
		{`presence;id="a b"`, event("presence", with("id", "a b"))},
		{`presence;id="a;\"b";x=""`, event("presence", with("id", `a;"b`), with("x", ""))},
		{"presence;x=[::A];y=a.b", event("presence", with("x", "[::A]"), with("y", "a.b"))},
		{"-.!%*_+`'~", event("-.!%*_+`'~")},
		{long(64), event(long(64))},
		{"a;x=" + long(64), event("a", with("x", long(64)))},
		{"a" + manyFields(16), event("a", counted(16)...)},
	} {
		if got, err := head.Event(x.s); err != api.OK || !alike(got, x.want) {
			t.Errorf("Event(%q) = %+v, %d", x.s, got, err)
		}
	}
}

func TestP8_3EventWrong(t *testing.T) {
	for _, s := range []string{
		"", " ", ";", ";id=1", " ;id=1", "a b", "a b;id=1", "a,b", "a/b", "a=b", "<a>", "<a;b>", `"a"`, `"a;b"`, "é", "a\n", "\ra", long(65),
		"a;", "a;;", "a; ;x", "a;=", "a;=1", "a;x=", "a;x= ", "a;x=1 2", "a;x y", "a;x=<b>", `a;x="b`, `a;x="b"c`, "a;x=\"\n\"", "a;x=1;X=2", "a;x;x", "a;x=" + long(65), "a;" + long(65),
		"a" + manyFields(17), "a" + strings.Repeat(";", 17), "a b;;", "a b" + manyFields(17),
	} {
		if got, err := head.Event(s); err != api.ErrEvent || !reflect.DeepEqual(got, api.Event{}) {
			t.Errorf("Event(%q) = %+v, %d", s, got, err)
		}
	}
}

func TestP8_3EventBytes(t *testing.T) {
	for i := range 256 {
		c := string([]byte{byte(i)})
		class := scan.Class(byte(i))
		for _, x := range []struct {
			s    string
			want bool
		}{
			{c, class&scan.Tokens != 0},
			{c + "a", class&(scan.Tokens|scan.Blank) != 0},
			{"a" + c, class&(scan.Tokens|scan.Blank) != 0},
			{"a" + c + "b", class&scan.Tokens != 0 || c == ";"},
			{"a" + c + ";x", class&(scan.Tokens|scan.Blank) != 0},
		} {
			if _, err := head.Event(x.s); (err == api.OK) != x.want || !x.want && err != api.ErrEvent {
				t.Errorf("Event(%q): %d", x.s, err)
			}
		}
	}
}

// named is how the document has a name, with or without parameters behind it.
var named = regexp.MustCompile("(?s)^[ \t]*([-0-9A-Za-z.!%*_+`'~]{1,64})[ \t]*(;.*)?$")

// read is a second reader of events: the whole text's shape, then what the
// layers below say of its parts.
func read(s string) (api.Event, bool) {
	found := named.FindStringSubmatch(s)
	if found == nil {
		return api.Event{}, false
	}
	l, err := addr.Fields(scan.Parts(found[2], ';')[1:])
	return event(found[1], l...), err == api.OK
}

func TestP8_3EventMany(t *testing.T) {
	for _, s := range texts(6, "a", "Id", ";", "=", " ", "\t", `"`, "<", ",") {
		want, ok := read(s)
		got, err := head.Event(s)
		if (err == api.OK) != ok || ok && !alike(got, want) || !ok && (err != api.ErrEvent || !reflect.DeepEqual(got, api.Event{})) {
			t.Fatalf("Event(%q) = %+v, %d", s, got, err)
		}
	}
}

func TestP8_3Print(t *testing.T) {
	for _, x := range []struct {
		v    api.Event
		want string
	}{
		{event("presence"), "presence"},
		{api.Event{Name: "presence", Params: []api.Param{}}, "presence"},
		{event("Presence.WInfo", bare("x")), "Presence.WInfo;x"},
		{event("presence", with("id", "1")), "presence;id=1"},
		{event("presence", with("ID", "a b"), bare("x"), with("y", ""), with("z", "[::A]")), `presence;ID="a b";x;y="";z=[::A]`},
		{event("a", with("x", `";`)), `a;x="\";"`},
		{event(long(64), counted(16)...), long(64) + manyFields(16)},
	} {
		if got, err := head.Print(x.v); got != x.want || err != api.OK {
			t.Errorf("Print(%+v) = %q, %d", x.v, got, err)
		}
	}
	for _, v := range []api.Event{
		{}, event("", with("id", "1")), event(" a"), event("a "), event("a b"), event("a;x"), event("a/b"), event("é"), event("a\n"), event(long(65)),
		event("a", bare("")), event("a", bare("x y")), event("a", bare("x"), bare("X")), event("a", with("x", "a\nb")), event("a", with("x", "\x00")),
		event("a", with("x", long(65))), event("a", api.Param{Name: "x", Value: "1"}), event("a", counted(17)...), event("", counted(17)...),
	} {
		if got, err := head.Print(v); got != "" || err != api.ErrEvent {
			t.Errorf("Print(%+v) = %q, %d", v, got, err)
		}
	}
}

func TestP8_3Is(t *testing.T) {
	for _, x := range []struct {
		a, b api.Event
		want bool
	}{
		{event("presence"), event("presence"), true},
		{event("presence"), event("Presence"), false},
		{event("presence"), event("presence.winfo"), false},
		{event("presence", with("id", "1")), event("presence", with("id", "1")), true},
		{event("presence", with("id", "1")), event("presence", with("ID", "1")), true},
		{event("presence", with("id", "1")), event("presence", with("id", "2")), false},
		{event("presence", with("id", "1")), event("presence", with("id", "01")), false},
		{event("presence", with("id", "a")), event("presence", with("id", "A")), false},
		{event("presence", with("id", "1")), event("presence"), false},
		{event("presence", with("id", "1")), event("other", with("id", "1")), false},
		// None is another than an empty one.
		{event("presence", bare("id")), event("presence"), false},
		{event("presence", with("id", "")), event("presence"), false},
		{event("presence", with("id", "")), event("presence", with("id", "")), true},
		{event("presence", bare("id")), event("presence", bare("id")), true},
		// The Value alone is asked for, not whether it was written.
		{event("presence", bare("id")), event("presence", with("id", "")), true},
		// Other parameters play no part, nor does the order.
		{event("presence", with("x", "1")), event("presence", with("x", "2"), bare("y")), true},
		{event("presence", with("x", "1"), with("Id", "7")), event("presence", with("iD", "7"), with("x", "2")), true},
		{event("presence", with("ids", "1"), with("i", "1")), event("presence"), true},
		// The first of that name counts alone.
		{event("presence", with("id", "1"), with("id", "2")), event("presence", with("id", "1")), true},
		{event("presence", with("id", "1"), with("id", "2")), event("presence", with("id", "2")), false},
		// Of what may not be, too, it is told.
		{api.Event{}, api.Event{}, true},
		{api.Event{}, event("", with("id", "")), false},
		{event("a b", append(counted(17), with("id", "\n"))...), event("a b", with("id", "\n")), true},
	} {
		if head.Is(x.a, x.b) != x.want || head.Is(x.b, x.a) != x.want {
			t.Errorf("Is(%+v, %+v) is not %t", x.a, x.b, x.want)
		}
		if !head.Is(x.a, x.a) || !head.Is(x.b, x.b) {
			t.Errorf("%+v or %+v is not itself", x.a, x.b)
		}
	}
}

// odd are values of parameters to be told there and back.
var odd = []string{"", "a", " ", " a ", `"`, `\`, `\"`, ",", ";", "<", ">", "<a>", "=", "[::1]", "[::A]", "A.b", "-a", "%41", "\t", "\x01", "\x7f", "é", "\xff", strings.Repeat(`"`, 64), long(64)}

func TestP8_6Print(t *testing.T) {
	all := []api.Event{event("presence"), event(long(64), counted(16)...)}
	for _, v := range odd {
		for _, w := range odd {
			all = append(all, event("-.!%*_+`'~aB0", with("id", v), bare("x"), with("Y", w)))
		}
	}
	for _, v := range all {
		s, err := head.Print(v)
		if err != api.OK {
			t.Fatalf("Print(%+v): %d", v, err)
		}
		for _, written := range []string{s, "\t " + s + " ", strings.Replace(s, ";", " \t;\t ", 1)} {
			if got, err := head.Event(written); err != api.OK || !alike(got, v) {
				t.Fatalf("Event(%q) = %+v, %d, not %+v", written, got, err, v)
			}
		}
	}
}

func TestP8_6PrintBytes(t *testing.T) {
	for i := range 256 {
		c := string([]byte{byte(i)})
		for _, v := range []api.Event{event(c), event("a" + c), event("a", bare("x"+c)), event("a", with("x", c), with("y", c+c)), event("a", with("x", "a"+c), bare("y"))} {
			s, err := head.Print(v)
			if err != api.OK {
				continue
			}
			if got, err := head.Event(s); err != api.OK || !alike(got, v) {
				t.Errorf("Event(%q) = %+v, %d", s, got, err)
			}
		}
	}
}

func TestP8_6Event(t *testing.T) {
	right := 0
	for _, text := range texts(6, "A", "id", ";", "=", " ", `"`, `\`, "<", ",") {
		v, err := head.Event(text)
		if err != api.OK {
			continue
		}
		right++
		s, err := head.Print(v)
		if err != api.OK {
			t.Fatalf("%q is read as %+v, which can't be written: %d", text, v, err)
		}
		if got, err := head.Event(s); err != api.OK || !alike(got, v) || !head.Is(got, v) {
			t.Fatalf("%q is written as %q, and read as %+v, %d", text, s, got, err)
		}
	}
	if right < 200 {
		t.Errorf("only %d texts are events", right)
	}
}

// wordsOf are all texts of an event.
func wordsOf(v api.Event) []string {
	l := []string{v.Name}
	for _, p := range v.Params {
		l = append(l, p.Name, p.Value)
	}
	return l
}

func TestRuleMemoryEvent(t *testing.T) {
	s := strings.Clone("presence;id=12;other;quoted=\"some text\"")
	v, err := head.Event(s)
	if err != api.OK {
		t.Fatal(err)
	}
	again, _ := head.Event(s)
	for i, word := range wordsOf(v) {
		if !apart(word, s) || !apart(word, wordsOf(again)[i]) {
			t.Errorf("%q shares memory", word)
		}
	}
	v.Params[0] = bare("changed")
	if again.Params[0] != with("id", "12") {
		t.Error("two answers share their parameters")
	}
}

func TestRuleMemoryPrint(t *testing.T) {
	l := make([]api.Param, 2, 4)
	l[0], l[1] = with("id", strings.Clone("12")), bare("other")
	spare := l[:4]
	spare[2] = with("kept", "kept")
	for _, v := range []api.Event{event(strings.Clone("presence")), event(strings.Clone("presence"), l...)} {
		s, _ := head.Print(v)
		again, _ := head.Print(v)
		for _, given := range wordsOf(v) {
			if !apart(s, given) {
				t.Errorf("%q shares memory with %q", s, given)
			}
		}
		if s == "" || !apart(s, again) {
			t.Errorf("two answers share %q", s)
		}
		head.Is(v, v)
	}
	if spare[2] != with("kept", "kept") || spare[3] != (api.Param{}) || l[0] != with("id", "12") || l[1] != bare("other") {
		t.Errorf("an argument was changed: %+v", spare)
	}
}
