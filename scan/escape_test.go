package scan_test

import (
	"fmt"
	"strings"
	"testing"

	"roster/api"
	"roster/scan"
)

func TestP1_5Escape(t *testing.T) {
	for _, x := range []struct{ s, keep, want string }{
		{"", "", ""},
		{"", "abc", ""},
		{"a b", "", "a%20b"},
		{"a b", " ", "a b"},
		{"a@b:c", "@", "a@b%3Ac"},
		{"a@b:c", ":@", "a@b:c"},
		{"%", "", "%25"},
		{"%", "%", "%25"},
		{"%41 ", " %", "%2541 "},
		{"-_.!~*'()", "", "-_.!~*'()"},
		{"+`\"\\", "", "%2B%60%22%5C"},
		{"\x00\t\n\x7f\x80\xff", "", "%00%09%0A%7F%80%FF"},
		{"\x00\xff", "\xff", "%00\xff"},
		{"é", "", "%C3%A9"},
		{"é", "é", "é"},
		{"\xe9", "é", "%E9"},
		{"xyz", "a", "xyz"},
	} {
		if got := scan.Escape(x.s, x.keep); got != x.want {
			t.Errorf("Escape(%q, %q) = %q", x.s, x.keep, got)
		}
	}
}

func TestP1_5EscapeBytes(t *testing.T) {
	for i := range 256 {
		c := string([]byte{byte(i)})
		coded := fmt.Sprintf("%%%02X", i)
		want := coded
		if scan.Class(byte(i))&scan.Plain != 0 {
			want = c
		}
		if got := scan.Escape(c, ""); got != want {
			t.Errorf("Escape of the byte %d = %q", i, got)
		}
		want = c
		if c == "%" {
			want = coded
		}
		if got := scan.Escape(c, every()); got != want {
			t.Errorf("Escape of the byte %d, kept, = %q", i, got)
		}
	}
}

func TestP1_5Unescape(t *testing.T) {
	for s, want := range map[string]string{
		"":               "",
		"a b":            "a b",
		"a%20b":          "a b",
		"a%2fb%2F":       "a/b/",
		"%00%ff%Ff%fF":   "\x00\xff\xff\xff",
		"%25":            "%",
		"%2541":          "%41",
		"%412":           "A2",
		"\x00+\"\\\x80é": "\x00+\"\\\x80é",
	} {
		if got, err := scan.Unescape(s); got != want || err != api.OK {
			t.Errorf("Unescape(%q) = %q, %d", s, got, err)
		}
	}
	for _, s := range []string{"%", "a%", "%4", "a%4", "%4g", "%g4", "%G0", "%%41", "%4%1", "%-1", "% 1", "%0x41", "%41%", "%41%4", "%\xff1", "%é"} {
		if got, err := scan.Unescape(s); got != "" || err != api.ErrEscape {
			t.Errorf("Unescape(%q) = %q, %d", s, got, err)
		}
	}
}

func TestP1_5UnescapeBytes(t *testing.T) {
	for i := range 256 {
		for _, form := range []string{"x%%%02xy", "x%%%02Xy"} {
			s := fmt.Sprintf(form, i)
			want := "x" + string([]byte{byte(i)}) + "y"
			if got, err := scan.Unescape(s); got != want || err != api.OK {
				t.Errorf("Unescape(%q) = %q, %d", s, got, err)
			}
		}
		hex := strings.IndexByte("0123456789abcdefABCDEF", byte(i)) >= 0
		for _, s := range []string{"%0" + string([]byte{byte(i)}), "%" + string([]byte{byte(i)}) + "0"} {
			if _, err := scan.Unescape(s); (err == api.OK) != hex || !hex && err != api.ErrEscape {
				t.Errorf("Unescape(%q): %d", s, err)
			}
		}
	}
}

func TestP1_7Escape(t *testing.T) {
	for _, keep := range []string{"", "%", " %4", every()} {
		for _, s := range append(texts("%4 a\xff", 4), every()) {
			e := scan.Escape(s, keep)
			if got, err := scan.Unescape(e); got != s || err != api.OK {
				t.Fatalf("Unescape(%q) = %q, %d, not %q", e, got, err, s)
			}
		}
	}
}
