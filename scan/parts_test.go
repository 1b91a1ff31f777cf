package scan_test

import (
	"regexp"
	"slices"
	"strings"
	"testing"

	"roster/scan"
)

func TestP1_6Parts(t *testing.T) {
	for _, x := range []struct {
		s    string
		sep  byte
		want []string
	}{
		{"", ',', []string{""}},
		{"a", ',', []string{"a"}},
		{",", ',', []string{"", ""}},
		{",,", ',', []string{"", "", ""}},
		{"a,b", ',', []string{"a", "b"}},
		{"a, b ,", ',', []string{"a", " b ", ""}},
		{"a,b", ';', []string{"a,b"}},
		{`a,"b,c",<d,e>`, ',', []string{"a", `"b,c"`, "<d,e>"}},
		{`a;"b;c";<d;e>;f`, ';', []string{"a", `"b;c"`, "<d;e>", "f"}},
		{`x"a,b"y,z`, ',', []string{`x"a,b"y`, "z"}},
		{`"",a`, ',', []string{`""`, "a"}},
		{`"a""b,c",d`, ',', []string{`"a""b,c"`, "d"}},
		// Within a quoted text a backslash takes the byte behind it along; elsewhere it is any byte.
		{`"a\",b",c`, ',', []string{`"a\",b"`, "c"}},
		{`"a\\",b`, ',', []string{`"a\\"`, "b"}},
		{`"a\,b",c`, ',', []string{`"a\,b"`, "c"}},
		{`\"a,b",c`, ',', []string{`\"a,b"`, "c"}},
		{`\,a`, ',', []string{`\`, "a"}},
		{`<\>,a`, ',', []string{`<\>`, "a"}},
		{`<a\",b>,",c`, ',', []string{`<a\",b>,",c`}},
		// Angles in a quoted text are none; a quoted text in angles is one.
		{`"<",a,">"`, ',', []string{`"<"`, "a", `">"`}},
		{`<a">",b">,c`, ',', []string{`<a">",b">,c`}},
		{`<a">",b>,c`, ',', []string{`<a">",b>`, "c"}},
		{`<a"\">,",b>,c`, ',', []string{`<a"\">,",b>`, "c"}},
		// Angles do not nest, and a > alone closes nothing.
		{"<a<b,c>,d>,e", ',', []string{"<a<b,c>", "d>", "e"}},
		{">a,b", ',', []string{">a", "b"}},
		{"<>,a", ',', []string{"<>", "a"}},
		// What is never closed stays open.
		{`a,"b,c`, ',', []string{"a", `"b,c`}},
		{`a,"b,c\"`, ',', []string{"a", `"b,c\"`}},
		{`"\`, ',', []string{`"\`}},
		{"a,<b,c", ',', []string{"a", "<b,c"}},
		{`a,<b">,c`, ',', []string{"a", `<b">,c`}},
		// These signs never part.
		{`a"b"c`, '"', []string{`a"b"c`}},
		{`"`, '"', []string{`"`}},
		{"a<b<c", '<', []string{"a<b<c"}},
		{"a>b>c", '>', []string{"a>b>c"}},
		{`a\b"\\"\c`, '\\', []string{"a", `b"\\"`, "c"}},
		{"a\x00b\x00", 0, []string{"a", "b", ""}},
		{"a\xffb", 0xff, []string{"a", "b"}},
		{"é", 0xa9, []string{"\xc3", ""}},
		{"  ", ' ', []string{"", "", ""}},
	} {
		if got := scan.Parts(x.s, x.sep); !slices.Equal(got, x.want) {
			t.Errorf("Parts(%q, %q) = %q", x.s, x.sep, got)
		}
	}
}

// cover writes noughts over all of a text that a pattern finds.
func cover(s string, pattern *regexp.Regexp) string {
	return pattern.ReplaceAllStringFunc(s, func(found string) string {
		return strings.Repeat("\x00", len(found))
	})
}

// TestP1_6Covered cuts texts in another way: quoted texts are covered first,
// then angles, and what is left is cut wherever the sign stands.
func TestP1_6Covered(t *testing.T) {
	quoted := regexp.MustCompile(`(?s)"(?:[^"\\]|\\.)*(?:"|\\?$)`)
	angled := regexp.MustCompile(`(?s)<[^>]*(?:>|$)`)
	for _, s := range texts(`a,"\<>`, 6) {
		covered := strings.ReplaceAll(cover(cover(s, quoted), angled), ">", "\x00")
		for _, sep := range []byte(`a,"\<>`) {
			var want []string
			from := 0
			for i := range len(covered) {
				if covered[i] == sep {
					want = append(want, s[from:i])
					from = i + 1
				}
			}
			want = append(want, s[from:])
			if got := scan.Parts(s, sep); !slices.Equal(got, want) {
				t.Fatalf("Parts(%q, %q) = %q, not %q", s, sep, got, want)
			}
		}
	}
}

func TestP1_6Room(t *testing.T) {
	l := scan.Parts("a,b", ',')
	m := scan.Parts("a,b", ',')
	l = append(l[:1], "x")
	if m[0] != "a" || m[1] != "b" || l[1] != "x" {
		t.Error("two answers share memory", l, m)
	}
}

func TestP1_7Parts(t *testing.T) {
	for _, s := range append(texts(`a,"\<>`, 5), every()) {
		for i := range len(s) {
			if got := strings.Join(scan.Parts(s, s[i]), s[i:i+1]); got != s {
				t.Fatalf("the parts of %q by %q are put together as %q", s, s[i], got)
			}
		}
		if got := scan.Parts(s, ';'); !strings.Contains(s, ";") && (len(got) != 1 || got[0] != s) {
			t.Fatalf("Parts(%q, ;) = %q", s, got)
		}
	}
}
