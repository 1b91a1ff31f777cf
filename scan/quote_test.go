package scan_test

import (
	"strings"
	"testing"

	"roster/api"
	"roster/scan"
)

// isBare says, by the document's words, whether a byte stands for itself.
func isBare(c byte) bool {
	return c == 9 || c >= 32 && strings.IndexByte("\"\\\x7f", c) < 0
}

func TestP1_4Quote(t *testing.T) {
	for s, want := range map[string]string{
		"":              `""`,
		"a":             `"a"`,
		`a"b`:           `"a\"b"`,
		`a"b\`:          `"a\"b\\"`,
		" \t":           "\" \t\"",
		"\x01\x1f\x7f":  "\"\\\x01\\\x1f\\\x7f\"",
		"é\x80\xff":     "\"é\x80\xff\"",
		"<a,b;c>":       `"<a,b;c>"`,
		"%41":           `"%41"`,
		"\x0b\x0c\x0e!": "\"\\\x0b\\\x0c\\\x0e!\"",
	} {
		if got, err := scan.Quote(s); got != want || err != api.OK {
			t.Errorf("Quote(%q) = %q, %d", s, got, err)
		}
	}
	for _, s := range []string{"\x00", "a\n", "\rb", "a\r\nb", "\"\\\x00"} {
		if got, err := scan.Quote(s); got != "" || err != api.ErrQuote {
			t.Errorf("Quote(%q) = %q, %d", s, got, err)
		}
	}
}

func TestP1_4QuoteBytes(t *testing.T) {
	for i := range 256 {
		c := string([]byte{byte(i)})
		want, wantErr := `"a`+c+`b"`, api.OK
		if i == 0 || i == 10 || i == 13 {
			want, wantErr = "", api.ErrQuote
		} else if !isBare(byte(i)) {
			want = `"a\` + c + `b"`
		}
		if got, err := scan.Quote("a" + c + "b"); got != want || err != wantErr {
			t.Errorf("Quote of the byte %d = %q, %d", i, got, err)
		}
	}
}

func TestP1_4Unquote(t *testing.T) {
	for s, want := range map[string]string{
		`""`:             "",
		`"a"`:            "a",
		`"a\"b"`:         `a"b`,
		`"\a\b"`:         "ab",
		`"\\"`:           `\`,
		`"\\\""`:         `\"`,
		`"\\a"`:          `\a`,
		"\" a\t\"":       " a\t",
		"\"\\ \\\t\"":    " \t",
		"\"\\\x01\x80\"": "\x01\x80",
		"\"\\\x7f\"":     "\x7f",
	} {
		if got, err := scan.Unquote(s); got != want || err != api.OK {
			t.Errorf("Unquote(%q) = %q, %d", s, got, err)
		}
	}
	for _, s := range []string{
		"", `"`, "a", `a"`, `"a`, ` "a"`, `"a" `, `"a"b`, `b"a"`,
		`"""`, `"a"b"`, `"a" "b"`,
		`"\"`, `"a\"`, `"\\\"`, `"\\"a"`,
		"\"\x00\"", "\"\n\"", "\"\r\"", "\"\x01\"", "\"\x1f\"", "\"\x7f\"",
		"\"\\\x00\"", "\"\\\n\"", "\"\\\r\"", "\"\\\x80\"", "\"\\\xff\"", "\"\\é\"",
		"'a'", "\"a\x00", "“a”",
	} {
		if got, err := scan.Unquote(s); got != "" || err != api.ErrQuote {
			t.Errorf("Unquote(%q) = %q, %d", s, got, err)
		}
	}
}

func TestP1_4UnquoteBytes(t *testing.T) {
	for i := range 256 {
		c := string([]byte{byte(i)})
		want, wantErr := "", api.ErrQuote
		if isBare(byte(i)) {
			want, wantErr = "a"+c+"b", api.OK
		}
		if byte(i) == '\\' {
			want, wantErr = "ab", api.OK
		}
		if got, err := scan.Unquote(`"a` + c + `b"`); got != want || err != wantErr {
			t.Errorf("Unquote of the byte %d = %q, %d", i, got, err)
		}
		want, wantErr = "a"+c+"b", api.OK
		if i == 0 || i == 10 || i == 13 || i > 127 {
			want, wantErr = "", api.ErrQuote
		}
		if got, err := scan.Unquote(`"a\` + c + `b"`); got != want || err != wantErr {
			t.Errorf("Unquote of the byte %d behind a backslash = %q, %d", i, got, err)
		}
	}
}

func TestP1_7Quote(t *testing.T) {
	all := texts("a\"\\\x01\x7f\t\xff", 4)
	all = append(all, strings.NewReplacer("\x00", "", "\n", "", "\r", "").Replace(every()))
	for _, s := range all {
		q, err := scan.Quote(s)
		if err != api.OK {
			t.Fatalf("Quote(%q): %d", s, err)
		}
		if got, err := scan.Unquote(q); got != s || err != api.OK {
			t.Fatalf("Unquote(%q) = %q, %d", q, got, err)
		}
	}
}
