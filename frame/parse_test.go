package frame_test

import (
	"regexp"
	"slices"
	"strconv"
	"strings"
	"testing"

	"roster/api"
	"roster/frame"
)

// lines puts lines' ends behind lines, and an empty line behind all.
func lines(l ...string) string { return strings.Join(l, "\r\n") + "\r\n\r\n" }

// ok is a first line that may be.
const ok = "OPTIONS sip:a SIP/2.0"

func TestP6_4ParseStart(t *testing.T) {
	for s, want := range map[string]api.Msg{
		"a b SIP/2.0":               {Method: "a", Target: "b"},
		"PUBLISH sip:a@b SIP/2.0":   {Method: "PUBLISH", Target: "sip:a@b"},
		"publish \xff sip/2.0":      {Method: "publish", Target: "\xff"},
		"a SIP/2.0 sIp/2.0":         {Method: "a", Target: "SIP/2.0"},
		"SIP b SIP/2.0":             {Method: "SIP", Target: "b"},
		long(64) + " b SIP/2.0":     {Method: long(64), Target: "b"},
		"SIP/2.0 100 ":              {Status: 100},
		"SIP/2.0 200 OK":            {Status: 200, Reason: "OK"},
		"sip/2.0 699 a b  c":        {Status: 699, Reason: "a b  c"},
		"SiP/2.0 481 a\tb:\"\xff\"": {Status: 481, Reason: "a\tb:\"\xff\""},
		"SIP/2.0 200 SIP/2.0":       {Status: 200, Reason: "SIP/2.0"},
	} {
		if got, err := frame.Parse(lines(s)); err != api.OK || !alike(got, want) {
			t.Errorf("Parse of %q = %+v, %d", s, got, err)
		}
	}
	for _, s := range []string{
		"a", "a b", "a b ", " ", "  ", "   ", "a b SIP/2.0 ", "a b  SIP/2.0", "a  SIP/2.0", "a  b SIP/2.0", " a b SIP/2.0", " b SIP/2.0",
		"a b SIP/2.1", "a b SIP/2.00", "a b SIP/2", "a b HTTP/1.1", "a b c SIP/2.0", "a\tb SIP/2.0", "a b\tSIP/2.0", "a b SIP/2.0\t",
		"a b\tc SIP/2.0", "a \t SIP/2.0", "a/b c SIP/2.0", "é b SIP/2.0", "a b\x00 SIP/2.0", "a b\x7f SIP/2.0", "a b\n SIP/2.0", "a b SIP/2.0\r",
		long(65) + " b SIP/2.0", "a b S\u0131P/2.0", "\na b SIP/2.0",
		"SIP/2.0", "SIP/2.0 ", "SIP/2.0 200", "SIP/2.0 200\tOK", "SIP/2.0\t200 OK", "SIP/2.0  200 OK", "SIP/2.0 200  ", "SIP/2.0 200  OK",
		"SIP/2.0 200 OK ", "SIP/2.0 200 OK\t", "SIP/2.0 200 \tOK", "SIP/2.0 700 x", "SIP/2.0 999 x", "SIP/2.0 099 x", "SIP/2.0 000 x",
		"SIP/2.0 20 x", "SIP/2.0 0200 x", "SIP/2.0 2000 x", "SIP/2.0 +20 x", "SIP/2.0 -20 x", "SIP/2.0 2x0 x", "SIP/2.0  x", "SIP/2.0 200 a\x00",
		"SIP/2.0 200 a\x7f", "SIP/2.0 200 a\nb", "SIP/2.0 b SIP/2.0", "SIP/2.1 200 OK", " SIP/2.0 200 OK", "SIP/2.0 \u0662\u0660\u0660 OK", "200 OK SIP/2.1",
	} {
		if got, err := frame.Parse(lines(s)); err != api.ErrStart || !empty(got) {
			t.Errorf("Parse of %q = %+v, %d", s, got, err)
		}
	}
}

func TestP6_4ParseHeaders(t *testing.T) {
	for _, x := range []struct {
		l    []string
		want []api.Header
	}{
		{nil, nil},
		{[]string{"a:b"}, heads(head("a", "b"))},
		{[]string{"A: b", "a:\t c ", "A :", "B \t : \t "}, heads(head("A", "b"), head("a", "c"), head("A", ""), head("B", ""))},
		{[]string{"v: 1", "V:2", "via:3", "VIA: 4"}, heads(head("Via", "1"), head("Via", "2"), head("via", "3"), head("VIA", "4"))},
		{[]string{"a: b: c", "b::", "d: :"}, heads(head("a", "b: c"), head("b", ":"), head("d", ":"))},
		{[]string{"To: \"a\tb\" <\xff>"}, heads(head("To", "\"a\tb\" <\xff>"))},
		{[]string{long(64) + ":"}, heads(head(long(64), ""))},
		// Folded ones.
		{[]string{"i: 1", " 2"}, heads(head("Call-ID", "1 2"))},
		{[]string{"To : x", "\ty "}, heads(head("To", "x y"))},
		{[]string{"a: 1", " 2", "\t 3\t", "b: 4", " 5"}, heads(head("a", "1 2 3"), head("b", "4 5"))},
		{[]string{"a:", " 1"}, heads(head("a", "1"))},
		{[]string{"a", " : 1"}, heads(head("a", "1"))},
		{[]string{"a", " :1", " b: 2"}, heads(head("a", "1 b: 2"))},
		{[]string{"v", "\t", " :"}, heads(head("Via", ""))},
		{[]string{"a: 1 ", " 2"}, heads(head("a", "1  2"))},
		{[]string{"a: 1", " ", " 2"}, heads(head("a", "1  2"))},
		{[]string{"a: 1", "\t"}, heads(head("a", "1"))},
		{[]string{"a: 1", " \t ", "b: 2"}, heads(head("a", "1"), head("b", "2"))},
		{[]string{"a: 1", " l: 2"}, heads(head("a", "1 l: 2"))},
	} {
		for _, first := range []string{ok, "SIP/2.0 200 OK"} {
			s := lines(append([]string{first}, x.l...)...)
			got, err := frame.Parse(s + "body")
			if err != api.OK || !slices.Equal(got.Headers, x.want) || got.Body != "body" {
				t.Errorf("Parse of %q = %+v, %d", s, got, err)
			}
		}
	}
	for short, full := range forms {
		if full == "Content-Length" {
			continue
		}
		for _, name := range []string{short, strings.ToUpper(short)} {
			if got, err := frame.Parse(lines(ok, name+": x")); err != api.OK || !slices.Equal(got.Headers, heads(head(full, "x"))) {
				t.Errorf("the name %s: %+v, %d", name, got, err)
			}
		}
	}
}

func TestP6_4ParseHeaderWrong(t *testing.T) {
	for _, l := range [][]string{
		{"a"}, {":"}, {": b"}, {" : b"}, {" a: b"}, {"\ta: b"}, {"a b: c"}, {"a\tb: c"}, {"\"a\": b"}, {"é: b"}, {"a\x00: b"}, {"a\n: b"}, {"a\r: b"},
		{long(65) + ": b"}, {"a: b\x00"}, {"a: b\x1f"}, {"a: b\x7f"}, {"a: \n"}, {"a: b\rc"}, {"a: b", "c"}, {"a: b", ":"}, {"a: b", "c d: e"},
		// What goes on no header, or makes one none.
		{" "}, {" ", " a: b"}, {"\t", "a: b"}, {" a", ": b"}, {"a", " b: c"}, {"a", " ", "b: c"}, {"a: b", " c\x00"}, {"a", " \x7f: b"}, {"\v: b"},
		// The line's own errors come ahead of its being a length, or one too many.
		{"l"}, {"l: 1\x00"}, {"l: x\x7f"}, {" l: x"},
	} {
		s := lines(append([]string{ok}, l...)...)
		if got, err := frame.Parse(s + "body"); err != api.ErrHeader || !empty(got) {
			t.Errorf("Parse of %q = %+v, %d", s, got, err)
		}
	}
}

func TestP6_4ParseEnd(t *testing.T) {
	for s, want := range map[string]api.Errno{
		"":                                  api.ErrEnd,
		"\r\n":                              api.ErrEnd,
		"\r\n\r\n":                          api.ErrEnd,
		"\r\n" + lines(ok):                  api.ErrEnd,
		"\r\n\r\n" + lines(ok):              api.ErrEnd,
		ok:                                  api.ErrEnd,
		ok + "\r\n":                         api.ErrEnd,
		ok + "\r\n\r":                       api.ErrEnd,
		ok + "\n\n":                         api.ErrEnd,
		ok + "\n\r\n":                       api.ErrEnd,
		ok + "\r\r":                         api.ErrEnd,
		ok + "\r\n\n\r":                     api.ErrEnd,
		ok + "\r\n \r\n":                    api.ErrEnd,
		ok + "\r\na: b\r\n":                 api.ErrEnd,
		ok + "\r\n\r\r\n":                   api.ErrEnd,
		"x\r\nx\r\n":                        api.ErrEnd,
		"x\r\n\r\n":                         api.ErrStart,
		"\r\r\n\r\n":                        api.ErrStart,
		"\n\r\n\r\n":                        api.ErrStart,
		ok + "\r\n\r\n":                     api.OK,
		ok + "\r\n\r\n\r\n":                 api.OK,
		ok + "\r\na: b\r\n \r\n\r\n":        api.OK,
		ok + "\r\n\r\r\n\r\n":               api.ErrHeader,
		ok + "\n\r\n\r\n":                   api.ErrStart,
		ok + "\r\na: b\n\r\n\r\n":           api.ErrHeader,
		ok + "\r\na: b\r\n\r\n\r\nl: x\r\n": api.OK,
	} {
		if got, err := frame.Parse(s); err != want || err != api.OK && !empty(got) {
			t.Errorf("Parse(%q) = %+v, %d, not %d", s, got, err, want)
		}
	}
}

func TestP6_4ParseLength(t *testing.T) {
	for _, x := range []struct {
		l    []string
		body string
		want string
	}{
		{nil, "", ""},
		{nil, "xyz", "xyz"},
		{nil, "\r\n\r\n", "\r\n\r\n"},
		{[]string{"l : 1"}, "xyz", "x"},
		{[]string{"l: 0"}, "xyz", ""},
		{[]string{"l: 0"}, "", ""},
		{[]string{"L: 3"}, "xyz", "xyz"},
		{[]string{"content-length: 2"}, "\x00\xffz", "\x00\xff"},
		{[]string{"CONTENT-LENGTH:002"}, "\r\n\r\n", "\r\n"},
		{[]string{"a: b", "Content-Length:", " 2\t", "d: e"}, "xyz", "xy"},
		{[]string{"l: " + strings.Repeat("0", 100) + "1"}, "xyz", "x"},
	} {
		s := lines(append([]string{ok}, x.l...)...) + x.body
		got, err := frame.Parse(s)
		if err != api.OK || got.Body != x.want {
			t.Errorf("Parse(%q) = %+v, %d", s, got, err)
		}
		for _, h := range got.Headers {
			if h.Name != "a" && h.Name != "d" {
				t.Errorf("%q: the length is among the headers", s)
			}
		}
	}
	for _, l := range [][]string{
		{"l: 4"}, {"l: 4096"}, {"l: 4097"}, {"l: 99999999999999999999"}, {"l:"}, {"l: x"}, {"l: -1"}, {"l: +1"}, {"l: 1 2"}, {"l: 1,1"}, {"l: 0x1"}, {"l: \"1\""}, {"l: 1", " 2"},
		{"l: 1", "l: 1"}, {"l: 0", "Content-Length: 0"}, {"content-length: 1", "a: b", "L: 2"}, {"l: 1", "l: x"}, {"l: x", "l: 1"}, {"a: b", "l: 4", "c: d"}, {"l: \u0661"},
	} {
		s := lines(append([]string{ok}, l...)...) + "xyz"
		if got, err := frame.Parse(s); err != api.ErrLength || !empty(got) {
			t.Errorf("Parse(%q) = %+v, %d", s, got, err)
		}
	}
}

func TestP6_4ParseMany(t *testing.T) {
	written := func(n int, more ...string) string {
		l := []string{ok}
		for _, h := range counted(n) {
			l = append(l, h.Name+":"+h.Value)
		}
		return lines(append(l, more...)...)
	}
	for s, want := range map[string]api.Errno{
		written(64):                        api.OK,
		written(64, " a"):                  api.OK,
		written(64, "l: 0"):                api.OK,
		written(63, "l: 0", "a: b"):        api.OK,
		written(65):                        api.ErrMany,
		written(64, "a: b", "c"):           api.ErrMany,
		written(64, "l: 0", "a: b"):        api.ErrMany,
		written(64, "a: b", "l: x"):        api.ErrMany,
		written(64, "a"):                   api.ErrHeader,
		written(64, "a: \x00"):             api.ErrHeader,
		written(64, "l: x", "a: b"):        api.ErrLength,
		written(64, "l: 1", "a: b"):        api.ErrMany,
		written(64, "l: 0", "l: 0", "a: "): api.ErrLength,
		written(150):                       api.ErrMany,
	} {
		got, err := frame.Parse(s)
		if err != want || err != api.OK && !empty(got) || err == api.OK && len(got.Headers) != 64 {
			t.Errorf("Parse(%q) = %+v, %d, not %d", s, got, err, want)
		}
	}
}

// TestP6_4ParseFirst asks which of several errors is told.
func TestP6_4ParseFirst(t *testing.T) {
	for s, want := range map[string]api.Errno{
		long(4097):                       api.ErrLong,
		lines("x") + long(4096):          api.ErrLong,
		long(4096):                       api.ErrEnd,
		"x\r\nl: x\r\n":                  api.ErrEnd,
		"\r\nx\r\n\r\n":                  api.ErrEnd,
		lines("x", "l: x", "y"):          api.ErrStart,
		lines("x", " y"):                 api.ErrStart,
		lines(ok, "y", "l: x"):           api.ErrHeader,
		lines(ok, "l: x", "y"):           api.ErrLength,
		lines(ok, "l: 1", "y"):           api.ErrHeader,
		lines(ok, "l: 4096", "y"):        api.ErrHeader,
		lines(ok, "l: 4097", "y"):        api.ErrLength,
		lines(ok, "l: 1", "l: 1", "y"):   api.ErrLength,
		lines(ok, "l: 1"):                api.ErrLength,
		lines(ok) + long(4096-len(ok)-4): api.OK,
		lines(ok) + long(4096-len(ok)-3): api.ErrLong,
		lines(ok, "l: 1") + long(4096):   api.ErrLong,
	} {
		if got, err := frame.Parse(s); err != want || err != api.OK && !empty(got) {
			t.Errorf("Parse(%.60q) = %+v, %d, not %d", s, got, err, want)
		}
	}
	if got, err := frame.Parse(lines(ok) + long(4096-len(ok)-4)); err != api.OK || len(got.Body) != 4096-len(ok)-4 {
		t.Errorf("4096 bytes: %d, %d", len(got.Body), err)
	}
}

var (
	folds    = regexp.MustCompile(`(?s)^(.*?\r\n)(.*?)\r\n[ \t]+(.*?)[ \t]*(\r\n.*)$`)
	asked    = regexp.MustCompile("^([A-Za-z0-9.!%*_+`'~-]{1,64}) ([^\\x00-\\x20\\x7f]+) (?i:SIP/2\\.0)$")
	answered = regexp.MustCompile(`^(?i:SIP/2\.0) ([1-6][0-9]{2}) (|[^\x00-\x20\x7f]|[^\x00-\x20\x7f][^\x00-\x08\x0a-\x1f\x7f]*[^\x00-\x20\x7f])$`)
	field    = regexp.MustCompile("^([A-Za-z0-9.!%*_+`'~-]{1,64})[ \\t]*:[ \\t]*([^\\x00-\\x08\\x0a-\\x1f\\x7f]*?)[ \\t]*$")
	number   = regexp.MustCompile(`^0*([0-9]{1,4})$`)
)

// latin writes each byte as the rune of its number, so that patterns look at bytes.
func latin(s string) string {
	var l []rune
	for i := range len(s) {
		l = append(l, rune(s[i]))
	}
	return string(l)
}

// bytesOf turns latin round.
func bytesOf(s string) string {
	var l []byte
	for _, r := range s {
		l = append(l, byte(r))
	}
	return string(l)
}

// read reads a message in another way: folds are taken out of the text one by
// one, and what is left is held against patterns.
func read(s string) (api.Msg, api.Errno) {
	if len(s) > 4096 {
		return api.Msg{}, api.ErrLong
	}
	at := strings.Index("\r\n"+s, "\r\n\r\n")
	if at <= 0 {
		return api.Msg{}, api.ErrEnd
	}
	top, body := latin(s[:at]), s[at+2:]
	for {
		m := folds.FindStringSubmatch(top)
		if m == nil {
			break
		}
		top = m[1] + m[2] + " " + m[3] + m[4]
	}
	l := strings.Split(strings.TrimSuffix(top, "\r\n"), "\r\n")
	var m api.Msg
	if x := asked.FindStringSubmatch(l[0]); x != nil {
		m.Method, m.Target = x[1], bytesOf(x[2])
	} else if x := answered.FindStringSubmatch(l[0]); x != nil {
		m.Status, _ = strconv.Atoi(x[1])
		m.Reason = bytesOf(x[2])
	} else {
		return api.Msg{}, api.ErrStart
	}
	return readRest(m, l[1:], body)
}

// readRest reads the lines behind the first one, and a body.
func readRest(m api.Msg, l []string, body string) (api.Msg, api.Errno) {
	length := ""
	for _, line := range l {
		x := field.FindStringSubmatch(line)
		if x == nil {
			return api.Msg{}, api.ErrHeader
		}
		h := api.Header{Name: x[1], Value: bytesOf(x[2])}
		if full, compact := forms[strings.ToLower(h.Name)]; compact {
			h.Name = full
		}
		if strings.EqualFold(h.Name, "Content-Length") {
			if length != "" || !number.MatchString(h.Value) {
				return api.Msg{}, api.ErrLength
			}
			length = h.Value
		} else if m.Headers = append(m.Headers, h); len(m.Headers) > 64 {
			return api.Msg{}, api.ErrMany
		}
	}
	if length != "" {
		n, err := strconv.Atoi(length)
		if err != nil || n > len(body) {
			return api.Msg{}, api.ErrLength
		}
		body = body[:n]
	}
	m.Body = body
	return m, api.OK
}

// compare holds Parse against read.
func compare(t *testing.T, s string) {
	t.Helper()
	want, none := read(s)
	if got, err := frame.Parse(s); err != none || !alike(got, want) {
		t.Fatalf("Parse(%q) = %+v, %d, not %+v, %d", s, got, err, want, none)
	}
}

func TestP6_4ParseAll(t *testing.T) {
	for _, s := range texts(6, "\r\n", "\r", "\n", " ", "x", ":", "l: 1") {
		compare(t, s)
		compare(t, ok+s)
		compare(t, ok+"\r\n"+s+"\r\n\r\nxy")
		compare(t, "SIP/2.0 200 "+s+"\r\n\r\n")
	}
	for _, s := range texts(5, "SIP/2.0", "sip/2.0", " ", "  ", "\t", "200", "a", "\r\n") {
		compare(t, lines(s)+"x")
	}
	for _, s := range texts(5, "\r\n", "\r\n ", "\r\n\t", "v:", "L :", "0", "2", "\t", "a") {
		compare(t, ok+s+"\r\n\r\nx")
	}
}

func TestP6_4ParseBytes(t *testing.T) {
	for i := range 256 {
		c := string([]byte{byte(i)})
		for _, s := range []string{c, "a" + c, c + "a", "a" + c + "a"} {
			compare(t, s)
			compare(t, s+"\r\n\r\n")
			compare(t, lines(s+" b SIP/2.0"))
			compare(t, lines("a "+s+" SIP/2.0"))
			compare(t, lines("a b "+s+"SIP/2.0"))
			compare(t, lines("a b SIP/2.0"+s))
			compare(t, lines("a"+s+"b SIP/2.0"))
			compare(t, lines("SIP/2.0"+s+"200 OK"))
			compare(t, lines("SIP/2.0 2"+s+" OK"))
			compare(t, lines("SIP/2.0 200"+s))
			compare(t, lines("SIP/2.0 200 "+s))
			compare(t, lines(ok, s))
			compare(t, lines(ok, s+": b"))
			compare(t, lines(ok, "a: b", s+": b"))
			compare(t, lines(ok, "a"+s+"b"))
			compare(t, lines(ok, "a:"+s))
			compare(t, lines(ok, "a: b", " "+s))
			compare(t, lines(ok, "l: 1"+s)+"body")
			compare(t, lines(ok, "l: "+s+"1")+"body")
			compare(t, lines(ok, "l: 3")+s+s)
		}
	}
}

func TestP6_6ParsePrint(t *testing.T) {
	parsed := 0
	for _, s := range texts(6, "\r\n", "\r\n ", "v:", "L :", "2", "\t", "a") {
		m, err := frame.Parse(ok + s + "\r\n\r\nxyz")
		if err != api.OK {
			continue
		}
		parsed++
		p, err := frame.Print(m)
		if err != api.OK {
			t.Fatalf("%q is parsed as %+v, which can't be printed: %d", s, m, err)
		}
		if got, err := frame.Parse(p); err != api.OK || !alike(got, m) {
			t.Fatalf("%q is printed as %q, and parsed as %+v, %d", s, p, got, err)
		}
	}
	if parsed < 200 {
		t.Errorf("only %d texts are messages", parsed)
	}
	// What is parsed may be too long when the length is written into it, or a name is.
	for _, s := range []string{lines(ok) + long(4096-len(ok)-4), lines(append([]string{ok}, slices.Repeat([]string{"e:"}, 64)...)...) + long(3700)} {
		m, err := frame.Parse(s)
		if err != api.OK {
			t.Fatalf("Parse(%.60q): %d", s, err)
		}
		if p, err := frame.Print(m); err != api.ErrLong || p != "" {
			t.Errorf("printed: %d bytes, %d", len(p), err)
		}
	}
}

func TestRuleMemoryParse(t *testing.T) {
	for _, s := range []string{
		lines("PUBLISH sip:a@b SIP/2.0", "v: one", "To : two", "\tthree", "X-Any: four", "l: 4") + "body and more",
		lines("SIP/2.0 200 All is well", "Some: thing") + "body",
	} {
		s = strings.Clone(s)
		one, err := frame.Parse(s)
		two, again := frame.Parse(s)
		if err != api.OK || again != api.OK || !alike(one, two) {
			t.Fatalf("Parse(%q): %d, %d", s, err, again)
		}
		// The long forms of names are the program's own words.
		given := slices.DeleteFunc(append(wordsOf(one), s), func(word string) bool { return word == "Via" })
		for i, x := range given {
			for _, y := range append(wordsOf(two), given[i+1:]...) {
				if !apart(x, y) {
					t.Errorf("of %q: %q and %q share memory", s, x, y)
				}
			}
		}
	}
}
