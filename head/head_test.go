package head_test

import (
	"math"
	"regexp"
	"strconv"
	"strings"
	"testing"
	"unsafe"

	"roster/api"
	"roster/head"
	"roster/scan"
)

// long is a text of n bytes.
func long(n int) string { return strings.Repeat("x", n) }

// texts are all texts of up to so many of some pieces.
func texts(most int, pieces ...string) []string {
	all := []string{""}
	from := 0
	for range most {
		to := len(all)
		for _, s := range all[from:to] {
			for _, p := range pieces {
				all = append(all, s+p)
			}
		}
		from = to
	}
	return all
}

// apart tells whether no byte of two texts lies in one place.
func apart(a, b string) bool {
	if a == "" || b == "" {
		return true
	}
	x, y := uintptr(unsafe.Pointer(unsafe.StringData(a))), uintptr(unsafe.Pointer(unsafe.StringData(b)))
	return x+uintptr(len(a)) <= y || y+uintptr(len(b)) <= x
}

func TestP8_1Seq(t *testing.T) {
	for _, x := range []struct {
		s      string
		n      int
		method string
	}{
		{"007 X", 7, "X"},
		{"0 NOTIFY", 0, "NOTIFY"},
		{"1 subscribe", 1, "subscribe"},
		{" \t007\t NOTIFY \t", 7, "NOTIFY"},
		{"1\tA", 1, "A"},
		{"1 \t \tA", 1, "A"},
		{"1 2", 1, "2"},
		{"2147483647 A", 2147483647, "A"},
		{strings.Repeat("0", 500) + "2147483647 A", 2147483647, "A"},
		{"5 -.!%*_+`'~", 5, "-.!%*_+`'~"},
		{"5 " + long(64), 5, long(64)},
	} {
		if n, method, err := head.Seq(x.s); n != x.n || method != x.method || err != api.OK {
			t.Errorf("Seq(%.40q) = %d, %q, %d", x.s, n, method, err)
		}
	}
}

func TestP8_1SeqWrong(t *testing.T) {
	for _, s := range []string{
		"", " ", "\t", "1", " 1 ", "A", " A", "1A", "A 1", "x A", "1x A", "-1 A", "+1 A", "0x1 A", "1.0 A",
		"2147483648 A", "4294967296 A", "4294967297 A", "18446744073709551617 A", strings.Repeat("9", 500) + " A",
		"1 a b", "1 a\tb", "1 2 A", "1 a/b", "1 a;b", "1 \"a\"", "1 é", "1,A", "1\nA", "1\r A", "1 A\n", "\n1 A", "1 A\x00", "1\u00a0A",
		"5 " + long(65),
	} {
		if n, method, err := head.Seq(s); n != 0 || method != "" || err != api.ErrSeq {
			t.Errorf("Seq(%.40q) = %d, %q, %d", s, n, method, err)
		}
	}
}

func TestP8_1SeqBytes(t *testing.T) {
	for i := range 256 {
		c := string([]byte{byte(i)})
		class := scan.Class(byte(i))
		for _, x := range []struct {
			s    string
			want bool
		}{
			{c + "1 A", class&(scan.Blank|scan.Digit) != 0},
			{"1" + c + " A", class&(scan.Blank|scan.Digit) != 0},
			{"1" + c + "A", class&scan.Blank != 0},
			{"1 " + c + "A", class&(scan.Blank|scan.Tokens) != 0},
			{"1 A" + c, class&(scan.Blank|scan.Tokens) != 0},
			{"1 A" + c + "B", class&scan.Tokens != 0},
		} {
			if _, _, err := head.Seq(x.s); (err == api.OK) != x.want || !x.want && err != api.ErrSeq {
				t.Errorf("Seq(%q): %d", x.s, err)
			}
		}
	}
}

// sequence is how the document has a CSeq.
var sequence = regexp.MustCompile("^[ \t]*([0-9]+)[ \t]+([-0-9A-Za-z.!%*_+`'~]{1,64})[ \t]*$")

func TestP8_1SeqMany(t *testing.T) {
	for _, s := range texts(7, "0", "2", "A", " ", "\t", ";") {
		number, method := 0, ""
		found := sequence.FindStringSubmatch(s)
		if found != nil {
			number, _ = strconv.Atoi(found[1])
			method = found[2]
		}
		n, m, err := head.Seq(s)
		if n != number || m != method || (err == api.OK) != (found != nil) || found == nil && err != api.ErrSeq {
			t.Fatalf("Seq(%q) = %d, %q, %d", s, n, m, err)
		}
	}
}

func TestP8_1Cseq(t *testing.T) {
	for _, x := range []struct {
		n      int
		method string
		want   string
	}{
		{0, "NOTIFY", "0 NOTIFY"},
		{7, "x", "7 x"},
		{10, "SUBSCRIBE", "10 SUBSCRIBE"},
		{2147483647, "A", "2147483647 A"},
		{1, long(64), "1 " + long(64)},
		{1, "-.!%*_+`'~", "1 -.!%*_+`'~"},
	} {
		if s, err := head.Cseq(x.n, x.method); s != x.want || err != api.OK {
			t.Errorf("Cseq(%d, %q) = %q, %d", x.n, x.method, s, err)
		}
	}
	for _, n := range []int{-1, math.MinInt, 1 << 31, 1 << 32, math.MaxInt} {
		if s, err := head.Cseq(n, "A"); s != "" || err != api.ErrSeq {
			t.Errorf("Cseq(%d, A) = %q, %d", n, s, err)
		}
	}
	for _, method := range []string{"", " ", " A", "A ", "A B", "A;", "é", "A\n", long(65)} {
		for _, n := range []int{-1, 0, 1, 1 << 31} {
			if s, err := head.Cseq(n, method); s != "" || err != api.ErrSeq {
				t.Errorf("Cseq(%d, %q) = %q, %d", n, method, s, err)
			}
		}
	}
}

func TestP8_2Call(t *testing.T) {
	for s, want := range map[string]bool{
		"":                             false,
		"a":                            true,
		"!":                            true,
		"~":                            true,
		`a@b;<c>,"d\`:                  true,
		long(127):                      true,
		long(128):                      true,
		long(129):                      false,
		long(5000):                     false,
		" a":                           false,
		"a ":                           false,
		"a b":                          false,
		"a\tb":                         false,
		"a\nb":                         false,
		"a\x7f":                        false,
		"é":                            false,
		strings.Repeat("é", 64):        false,
		long(127) + " ":                false,
		" " + long(127):                false,
		strings.Repeat("!~", 64):       true,
		strings.Repeat("!~", 64) + "!": false,
	} {
		if got := head.Call(s); got != want {
			t.Errorf("Call(%.40q) = %t", s, got)
		}
	}
}

func TestP8_2CallBytes(t *testing.T) {
	for i := range 256 {
		c := string([]byte{byte(i)})
		for _, s := range []string{c, c + "a", "a" + c, "a" + c + "a"} {
			if got := head.Call(s); got != (i >= 33 && i <= 126) {
				t.Errorf("Call(%q) = %t", s, got)
			}
		}
	}
}

func TestP8_2Time(t *testing.T) {
	for s, want := range map[string]int{
		"0":                               0,
		"00":                              0,
		"60":                              60,
		"060":                             60,
		" \t60\t ":                        60,
		"2147483646":                      2147483646,
		"2147483647":                      2147483647,
		"2147483648":                      2147483647,
		"4294967296":                      2147483647,
		" 99999999999 ":                   2147483647,
		"18446744073709551616":            2147483647,
		strings.Repeat("9", 500):          2147483647,
		strings.Repeat("0", 500) + "60":   60,
		strings.Repeat("0", 500) + "9 \t": 9,
	} {
		if n, err := head.Time(s); n != want || err != api.OK {
			t.Errorf("Time(%.40q) = %d, %d", s, n, err)
		}
	}
	for _, s := range []string{"", " ", "\t \t", "-1", "+1", "1 2", "6\t0", "1s", "s", "1.5", "0x1", "\n1", "1\r", "1\x00", "\u0661", "99999999999x", "1,2", `"1"`} {
		if n, err := head.Time(s); n != 0 || err != api.ErrNumber {
			t.Errorf("Time(%q) = %d, %d", s, n, err)
		}
	}
}

func TestP8_2TimeBytes(t *testing.T) {
	for i := range 256 {
		c := string([]byte{byte(i)})
		class := scan.Class(byte(i))
		for _, x := range []struct {
			s     string
			class int
		}{{c, scan.Digit}, {c + "1", scan.Digit | scan.Blank}, {"1" + c, scan.Digit | scan.Blank}, {"1" + c + "1", scan.Digit}} {
			want := api.OK
			if class&x.class == 0 {
				want = api.ErrNumber
			}
			if _, err := head.Time(x.s); err != want {
				t.Errorf("Time(%q): %d, not %d", x.s, err, want)
			}
		}
	}
}

func TestP8_6Cseq(t *testing.T) {
	for shift := range 31 {
		for d := -2; d <= 1; d++ {
			for _, method := range []string{"NOTIFY", "a", "0", "-.!%*_+`'~", long(64)} {
				n := max(0, 1<<shift+d)
				s, err := head.Cseq(n, method)
				if err != api.OK {
					t.Fatalf("Cseq(%d, %q): %d", n, method, err)
				}
				for _, written := range []string{s, "\t" + s + " ", "00" + strings.Replace(s, " ", "\t ", 1)} {
					if got, m, err := head.Seq(written); got != n || m != method || err != api.OK {
						t.Fatalf("Seq(%q) = %d, %q, %d", written, got, m, err)
					}
				}
			}
		}
	}
}

func TestP8_6Seq(t *testing.T) {
	read := 0
	for _, text := range texts(7, "0", "2", "A", " ", "\t", ";") {
		n, method, err := head.Seq(text)
		if err != api.OK {
			continue
		}
		read++
		s, err := head.Cseq(n, method)
		if err != api.OK {
			t.Fatalf("Cseq(%d, %q): %d", n, method, err)
		}
		if again, m, err := head.Seq(s); again != n || m != method || err != api.OK {
			t.Fatalf("Seq(%q) = %d, %q, %d, not %d, %q", s, again, m, err, n, method)
		}
	}
	if read < 200 {
		t.Errorf("only %d texts are read", read)
	}
}

func TestRuleMemorySeq(t *testing.T) {
	s := strings.Clone("0012 SUBSCRIBE")
	_, method, _ := head.Seq(s)
	_, again, _ := head.Seq(s)
	written, _ := head.Cseq(12, method)
	if method != "SUBSCRIBE" || written != "12 SUBSCRIBE" {
		t.Fatal(method, written)
	}
	if !apart(method, s) || !apart(method, again) || !apart(written, method) {
		t.Error("an answer shares memory")
	}
}
