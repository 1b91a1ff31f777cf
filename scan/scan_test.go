package scan_test

import (
	"strings"
	"testing"

	"roster/api"
	"roster/scan"
)

// every is one text of all 256 bytes.
func every() string {
	b := make([]byte, 256)
	for i := range b {
		b[i] = byte(i)
	}
	return string(b)
}

// texts are all texts of up to so many signs of an alphabet.
func texts(alphabet string, most int) []string {
	all := []string{""}
	from := 0
	for range most {
		to := len(all)
		for _, s := range all[from:to] {
			for i := range len(alphabet) {
				all = append(all, s+alphabet[i:i+1])
			}
		}
		from = to
	}
	return all
}

const (
	digits   = "0123456789"
	smalls   = "abcdefghijklmnopqrstuvwxyz"
	capitals = "ABCDEFGHIJKLMNOPQRSTUVWXYZ"
	letters  = smalls + capitals
)

// members are the bytes of each class, as P1.1 lists them.
var members = []struct {
	class int
	bytes string
}{
	{scan.Digit, digits},
	{scan.Alpha, letters},
	{scan.Hex, digits + "abcdefABCDEF"},
	{scan.Tokens, digits + letters + "-.!%*_+`'~"},
	{scan.Plain, digits + letters + "-_.!~*'()"},
	{scan.Blank, " \t"},
	{scan.Hosts, digits + letters + "-."},
}

func TestP1_1Constants(t *testing.T) {
	got := [...]int{scan.Digit, scan.Alpha, scan.Hex, scan.Tokens, scan.Plain, scan.Blank, scan.Hosts}
	if got != [...]int{1, 2, 4, 8, 16, 32, 64} {
		t.Error(got)
	}
}

func TestP1_1Class(t *testing.T) {
	for i := range 256 {
		c, want := byte(i), 0
		for _, m := range members {
			if strings.IndexByte(m.bytes, c) >= 0 {
				want += m.class
			}
		}
		if got := scan.Class(c); got != want {
			t.Errorf("Class(%q) = %d, not %d", c, got, want)
		}
	}
	if scan.Class('f') != 94 {
		t.Error("the document's example")
	}
}

func TestP1_1All(t *testing.T) {
	for _, x := range []struct {
		s     string
		class int
		want  bool
	}{
		{"", 0, true},
		{"", scan.Digit, true},
		{"a", 0, false},
		{"0190", scan.Digit, true},
		{"01a0", scan.Digit, false},
		{"a010", scan.Digit, false},
		{"010a", scan.Digit, false},
		{"a1 ", scan.Digit + scan.Alpha, false},
		{"a1 ", scan.Digit + scan.Alpha + scan.Blank, true},
		{"(\t)", scan.Plain + scan.Blank, true},
		{"a\x80", scan.Digit + scan.Alpha + scan.Hex + scan.Tokens + scan.Plain + scan.Blank + scan.Hosts, false},
		{"a\x00", 127, false},
	} {
		if got := scan.All(x.s, x.class); got != x.want {
			t.Errorf("All(%q, %d) = %v", x.s, x.class, got)
		}
	}
	for class := range 128 {
		for i := range 256 {
			if got, want := scan.All(string([]byte{byte(i)}), class), scan.Class(byte(i))&class != 0; got != want {
				t.Fatalf("All of the byte %d, %d = %v", i, class, got)
			}
		}
	}
}

func TestP1_2Token(t *testing.T) {
	for i := range 256 {
		s := string([]byte{'a', byte(i)})
		if got, want := scan.Token(s), scan.Class(byte(i))&scan.Tokens != 0; got != want {
			t.Errorf("Token(%q) = %v", s, got)
		}
	}
	for n, want := range map[int]bool{0: false, 1: true, 63: true, 64: true, 65: false, 4096: false} {
		if got := scan.Token(strings.Repeat("x", n)); got != want {
			t.Errorf("Token of %d bytes = %v", n, got)
		}
	}
	if scan.Token(strings.Repeat("x", api.MaxName-1) + " ") {
		t.Error("a blank at the end of a long one")
	}
}

func TestP1_2Lower(t *testing.T) {
	want := strings.Replace(every(), capitals, smalls, 1)
	if got := scan.Lower(every()); got != want {
		t.Errorf("Lower of all bytes = %q", got)
	}
	// É and the Kelvin sign have small forms in Unicode, but not here.
	for s, want := range map[string]string{"": "", "SiP": "sip", "É\u212a": "É\u212a", "\xc9Z\xff": "\xc9z\xff"} {
		if got := scan.Lower(s); got != want {
			t.Errorf("Lower(%q) = %q", s, got)
		}
	}
}

func TestP1_2Same(t *testing.T) {
	for _, x := range []struct {
		a, b string
		want bool
	}{
		{"", "", true},
		{"SIP", "sip", true},
		{"Call-ID", "cALL-id", true},
		{"sip", "sips", false},
		{"sips", "sip", false},
		{"", "a", false},
		{"[", "{", false},
		{"@", "`", false},
		{"É", "é", false},
		{"k", "\u212a", false},
		{"s", "\u017f", false},
		{"\xff", "\xfe", false},
	} {
		if got := scan.Same(x.a, x.b); got != x.want {
			t.Errorf("Same(%q, %q) = %v", x.a, x.b, got)
		}
	}
	for i := range 256 {
		for j := range 256 {
			a, b := string([]byte{byte(i)}), string([]byte{byte(j)})
			if got := scan.Same(a, b); got != (scan.Lower(a) == scan.Lower(b)) {
				t.Fatalf("Same(%q, %q) = %v", a, b, got)
			}
		}
	}
}

func TestP1_2Trim(t *testing.T) {
	for s, want := range map[string]string{
		"":            "",
		" ":           "",
		"\t \t":       "",
		"a":           "a",
		" a b\t":      "a b",
		"\t\t a":      "a",
		"a \t ":       "a",
		" a\t b ":     "a\t b",
		"\r\n a \n":   "\r\n a \n",
		"\u00a0a\x0b": "\u00a0a\x0b",
	} {
		if got := scan.Trim(s); got != want {
			t.Errorf("Trim(%q) = %q", s, got)
		}
	}
	for _, s := range texts("a \t", 5) {
		if got := scan.Trim(s); got != strings.Trim(s, " \t") {
			t.Errorf("Trim(%q) = %q", s, got)
		}
	}
}

func TestP1_7Same(t *testing.T) {
	l := texts("aA[{", 3)
	for _, a := range l {
		if !scan.Same(a, a) {
			t.Fatalf("%q is not the same as itself", a)
		}
		for _, b := range l {
			if scan.Same(a, b) != scan.Same(b, a) {
				t.Fatalf("%q and %q hang on their order", a, b)
			}
			if !scan.Same(a, b) {
				continue
			}
			for _, c := range l {
				if scan.Same(b, c) != scan.Same(a, c) {
					t.Fatalf("%q, %q, %q: not from one to the third", a, b, c)
				}
			}
		}
	}
}
