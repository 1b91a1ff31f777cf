package head_test

import (
	"regexp"
	"slices"
	"strings"
	"testing"

	"roster/head"
	"roster/scan"
)

func TestP8_5Type(t *testing.T) {
	for _, x := range []struct {
		s, want string
		ok      bool
	}{
		{"application/pidf+xml", "application/pidf+xml", true},
		{"Application/PIDF+XML", "application/pidf+xml", true},
		{" \ttext/plain\t ", "text/plain", true},
		{"text/plain \t; charset=UTF-8;q=1", "text/plain", true},
		{"a/b;", "a/b", true},
		{"a/b;;\"", "a/b", true},
		{"*/*", "*/*", true},
		{"Text/*;q=0.5", "text/*", true},
		{"*/X", "*/x", true},
		{"-.!%*_+`'~/0", "-.!%*_+`'~/0", true},
		{long(64) + "/" + long(64), long(64) + "/" + long(64), true},
		// What is no type is told all the same: it is the answer that says so.
		{"", "", false},
		{" \t", "", false},
		{";", "", false},
		{";a/b", "", false},
		{" A ;x", "a", false},
		{"/", "/", false},
		{"A/", "a/", false},
		{"/B", "/b", false},
		{"A /B", "a /b", false},
		{"A/ B", "a/ b", false},
		{"A/B C", "a/b c", false},
		{"A/B/C", "a/b/c", false},
		{"A//B", "a//b", false},
		{"A/B,C/D", "a/b,c/d", false},
		{"É/B", "É/b", false},
		{"a/b\n", "a/b\n", false},
		{`"A;/B";x`, `"a;/b"`, false},
		{"<A;/B>;x", "<a;/b>", false},
		{"A/\"B;c", "a/\"b;c", false},
		{long(65) + "/b", long(65) + "/b", false},
		{"a/" + long(65), "a/" + long(65), false},
	} {
		if got, ok := head.Type(x.s); got != x.want || ok != x.ok {
			t.Errorf("Type(%q) = %q, %t", x.s, got, ok)
		}
	}
}

func TestP8_5TypeBytes(t *testing.T) {
	for i := range 256 {
		c := string([]byte{byte(i)})
		class := scan.Class(byte(i))
		for _, x := range []struct {
			s    string
			want bool
		}{
			{c + "a/b", class&(scan.Tokens|scan.Blank) != 0},
			{"a" + c + "/b", class&scan.Tokens != 0},
			{"a" + c + "b", c == "/"},
			{"a/" + c + "b", class&scan.Tokens != 0},
			{"a/b" + c, class&(scan.Tokens|scan.Blank) != 0 || c == ";"},
			{"a/b" + c + "d", class&scan.Tokens != 0 || c == ";"},
		} {
			if got, ok := head.Type(x.s); ok != x.want {
				t.Errorf("Type(%q) = %q, %t", x.s, got, ok)
			}
		}
	}
}

// shape is how the document has a type.
var shape = regexp.MustCompile("^[-0-9a-z.!%*_+`'~]{1,64}/[-0-9a-z.!%*_+`'~]{1,64}$")

func TestP8_5TypeMany(t *testing.T) {
	for _, s := range texts(6, "A", "b", "/", ";", " ", "\t", `"`, "<", "*") {
		want := strings.ToLower(strings.Trim(scan.Parts(s, ';')[0], " \t"))
		if got, ok := head.Type(s); got != want || ok != shape.MatchString(want) {
			t.Fatalf("Type(%q) = %q, %t", s, got, ok)
		}
	}
}

func TestP8_5Accepts(t *testing.T) {
	for _, x := range []struct {
		l    []string
		t    string
		want bool
	}{
		{[]string{"text/plain", "application/*"}, "application/pidf+xml; charset=x", true},
		{[]string{"application/pidf+xml"}, "application/pidf+xml", true},
		{[]string{" APPLICATION/pidf+XML ; q=1"}, "\tApplication/PIDF+xml;charset=x", true},
		{[]string{"*/*"}, "a/b", true},
		{[]string{"\t*/*;q=0"}, "a/b", true},
		{[]string{"A/*"}, "a/b", true},
		{[]string{"a/b", "c/d", "e/f"}, "e/f", true},
		{[]string{"", "a", "a/b"}, "a/b", true},
		{nil, "a/b", false},
		{[]string{}, "a/b", false},
		{[]string{""}, "a/b", false},
		{[]string{"text/*"}, "application/pidf+xml", false},
		{[]string{"a/c"}, "a/b", false},
		{[]string{"c/b"}, "a/b", false},
		{[]string{"*/b"}, "a/b", false},
		{[]string{"a/b*"}, "a/b", false},
		{[]string{"*a/*", "aa/*", "/*", "a*", "*"}, "a/b", false},
		{[]string{"a/b,c/d"}, "a/b", false},
		{[]string{"c/d,a/b"}, "a/b", false},
		{[]string{"c/d;a/b"}, "a/b", false},
		{[]string{"a /b", "a/ b", "a/b/c", "a/bc", "a/"}, "a/b", false},
		// What is no type is not taken, not even by itself.
		{[]string{"", "*/*"}, "", false},
		{[]string{"a", "*/*", "a/*"}, "a", false},
		{[]string{"a/", "*/*", "a/*"}, "a/", false},
		{[]string{"/b", "*/*", "/*"}, "/b", false},
		{[]string{"a/b/c", "*/*", "a/*"}, "a/b/c", false},
		{[]string{"a/b,c/d", "*/*"}, "a/b,c/d", false},
		{[]string{"*/*", "x/*"}, long(65) + "/b", false},
		{[]string{"*/*", "a/*"}, "a/" + long(65), false},
		// A range may be asked for, too: it is a type of just these signs.
		{[]string{"*/*"}, "*/*", true},
		{[]string{"a/*"}, "a/*", true},
		{[]string{"a/*"}, "*/*", false},
		{[]string{"a/b"}, "a/*", false},
		{[]string{"*/b"}, "*/b", true},
		{[]string{"*/*"}, "*/b", true},
	} {
		if got := head.Accepts(x.l, x.t); got != x.want {
			t.Errorf("Accepts(%q, %q) = %t", x.l, x.t, got)
		}
	}
}

func TestP8_5AcceptsMany(t *testing.T) {
	all := texts(4, "a", "B", "/", "*", ";")
	for _, s := range all {
		kind, ok := head.Type(s)
		front, _, _ := strings.Cut(kind, "/")
		for _, r := range all {
			taken, such := head.Type(r)
			want := ok && such && (taken == kind || taken == "*/*" || taken == front+"/*")
			if got := head.Accepts([]string{"c/c", r}, s); got != want {
				t.Fatalf("Accepts(%q, %q) = %t", r, s, got)
			}
		}
	}
}

func TestP8_6Type(t *testing.T) {
	right := 0
	for _, s := range texts(6, "A", "b", "/", ";", " ", "\t", `"`, "<", "*") {
		kind, ok := head.Type(s)
		if !ok {
			continue
		}
		right++
		if again, ok := head.Type(kind); again != kind || !ok || !head.Accepts([]string{s}, kind) {
			t.Fatalf("Type(%q) = %q, %t", kind, again, ok)
		}
	}
	if right < 200 {
		t.Errorf("only %d texts are types", right)
	}
}

func TestRuleMemoryType(t *testing.T) {
	for _, s := range []string{strings.Clone("text/plain"), strings.Clone("text")} {
		one, _ := head.Type(s)
		two, _ := head.Type(s)
		if one != s || !apart(one, s) || !apart(one, two) {
			t.Errorf("%q shares memory", one)
		}
	}
	l := make([]string, 2, 3)
	l[0], l[1] = "Text/*", "A/B"
	head.Accepts(l, "a/b")
	if want := []string{"Text/*", "A/B", ""}; !slices.Equal(l[:3], want) {
		t.Errorf("an argument was changed: %q", l[:3])
	}
}
