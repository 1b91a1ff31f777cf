package via_test

import (
	"regexp"
	"slices"
	"strings"
	"testing"

	"roster/addr"
	"roster/api"
	"roster/scan"
	"roster/uri"
	"roster/via"
)

func TestP7_2Parse(t *testing.T) {
	for _, x := range []struct {
		s    string
		want api.Via
	}{
		{"SIP/2.0/UDP a", hop("a", 0)},
		{"sip/2.0/udp  A.b:5070 ;branch=z9hG4bK1", hop("a.b", 5070, with("branch", "z9hG4bK1"))},
		{" \tsIp/2.0/UdP\tA\t ", hop("a", 0)},
		{"SIP/2.0/UDP a:1", hop("a", 1)},
		{"SIP/2.0/UDP a:065535", hop("a", 65535)},
		{"SIP/2.0/UDP \t \t [::A]:5060\t;\trport\t;\tx\t=\ty\t", hop("[::a]", 5060, bare("rport"), with("x", "y"))},
		{`SIP/2.0/UDP a;x="b;c , d";Y=[::A];z=""`, hop("a", 0, with("x", "b;c , d"), with("Y", "[::A]"), with("z", ""))},
		{`SIP/2.0/UDP a;x="\"\;";y`, hop("a", 0, with("x", `";`), bare("y"))},
		{"SIP/2.0/UDP " + long(64), hop(long(64), 0)},
		{"SIP/2.0/UDP a;p0;p1;p2;p3;p4;p5;p6;p7;p8;p9;p10;p11;p12;p13;p14;p15", hop("a", 0, counted(16)...)},
	} {
		if got, err := via.Parse(x.s); err != api.OK || !alike(got, x.want) {
			t.Errorf("Parse(%q) = %+v, %d", x.s, got, err)
		}
	}
}

func TestP7_2ParseWrong(t *testing.T) {
	for _, x := range []struct {
		s   string
		err api.Errno
	}{
		{"", api.ErrVia},
		{" \t ", api.ErrVia},
		{"SIP/2.0/UDP", api.ErrVia},
		{" SIP/2.0/UDP\t ", api.ErrVia},
		{"SIP/2.0/TCP a", api.ErrVia},
		{"SIP/2.0/UD a", api.ErrVia},
		{"SIP/2.0/UDPa", api.ErrVia},
		{"SIP/2.0/UDPS a", api.ErrVia},
		{"SIP/2.0/UDP; a", api.ErrVia},
		{"SIP/2.0/UDP;x a", api.ErrVia},
		{"SIP /2.0/UDP a", api.ErrVia},
		{"SIP / 2.0 / UDP a", api.ErrVia},
		{"SIP/2.0/ UDP a", api.ErrVia},
		{"SIP/3.0/UDP a", api.ErrVia},
		{"a SIP/2.0/UDP", api.ErrVia},
		{"SIP/2.0/UDP\na", api.ErrVia},
		{"SIP/2.0/TCP a b;;", api.ErrVia},
		{"SIP/2.0/UDP ;", api.ErrHost},
		{"SIP/2.0/UDP ;x", api.ErrHost},
		{"SIP/2.0/UDP :5060", api.ErrHost},
		{"SIP/2.0/UDP a b", api.ErrHost},
		{"SIP/2.0/UDP a :1", api.ErrHost},
		{"SIP/2.0/UDP -a", api.ErrHost},
		{"SIP/2.0/UDP <a>", api.ErrHost},
		{"SIP/2.0/UDP a<;b>", api.ErrHost},
		{`SIP/2.0/UDP "a;b"`, api.ErrHost},
		{"SIP/2.0/UDP a,b", api.ErrHost},
		{"SIP/2.0/UDP " + long(65), api.ErrHost},
		{"SIP/2.0/UDP a:", api.ErrPort},
		{"SIP/2.0/UDP a:0", api.ErrPort},
		{"SIP/2.0/UDP a: 1", api.ErrPort},
		{"SIP/2.0/UDP a:65536", api.ErrPort},
		{"SIP/2.0/UDP a:-1", api.ErrPort},
		{"SIP/2.0/UDP a:1:2", api.ErrPort},
		{"SIP/2.0/UDP a:b", api.ErrPort},
		{"SIP/2.0/UDP a;", api.ErrParam},
		{"SIP/2.0/UDP a; ;x", api.ErrParam},
		{"SIP/2.0/UDP a;=", api.ErrParam},
		{"SIP/2.0/UDP a;x=", api.ErrParam},
		{"SIP/2.0/UDP a;x=b c", api.ErrParam},
		{"SIP/2.0/UDP a;x=<b>", api.ErrParam},
		{`SIP/2.0/UDP a;x="b`, api.ErrParam},
		{"SIP/2.0/UDP a;x;X=1", api.ErrParam},
		{"SIP/2.0/UDP a;x=" + long(65), api.ErrParam},
		{"SIP/2.0/UDP a" + strings.Repeat(";", 17), api.ErrMany},
		// The first error is told.
		{"SIP/2.0/UDP -:0;", api.ErrHost},
		{"SIP/2.0/UDP -" + strings.Repeat(";", 17), api.ErrHost},
		{"SIP/2.0/UDP a:0;", api.ErrPort},
		{"SIP/2.0/UDP a:0" + strings.Repeat(";", 17), api.ErrPort},
	} {
		if got, err := via.Parse(x.s); err != x.err || !empty(got) {
			t.Errorf("Parse(%q) = %+v, %d, not %d", x.s, got, err, x.err)
		}
	}
}

func TestP7_2ParseBytes(t *testing.T) {
	for i := range 256 {
		c := string([]byte{byte(i)})
		blank := i == ' ' || i == '\t'
		for _, s := range []string{c + "SIP/2.0/UDP a", "SIP/2.0/UDP" + c + "a"} {
			want := api.ErrVia
			if blank {
				want = api.OK
			}
			if got, err := via.Parse(s); err != want || err == api.OK && !alike(got, hop("a", 0)) {
				t.Errorf("Parse(%q) = %+v, %d", s, got, err)
			}
		}
		for _, ahead := range []string{"S", "SIP", "SIP/2", "SIP/2.0/UDP"} {
			s := ahead + c + strings.TrimPrefix("SIP/2.0/UDP", ahead) + " a"
			if _, err := via.Parse(s); err != api.ErrVia && !(blank && ahead == "SIP/2.0/UDP") {
				t.Errorf("Parse(%q): %d", s, err)
			}
		}
	}
}

// shape is how the document has a hop's text: the protocol, a blank, the rest.
var shape = regexp.MustCompile(`(?s)^[ \t]*(?i:sip/2\.0/udp)[ \t](.*)$`)

// read is a second reader of hops: the whole text's shape, then what the
// layers below say of its parts.
func read(s string) (api.Via, api.Errno) {
	found := shape.FindStringSubmatch(s)
	if found == nil || strings.Trim(found[1], " \t") == "" {
		return api.Via{}, api.ErrVia
	}
	parts := scan.Parts(found[1], ';')
	host, port, err := uri.Where(strings.Trim(parts[0], " \t"))
	if err != api.OK {
		return api.Via{}, err
	}
	l, err := addr.Fields(parts[1:])
	if err != api.OK {
		return api.Via{}, err
	}
	return api.Via{Host: host, Port: port, Params: l}, api.OK
}

func TestP7_2ParseMany(t *testing.T) {
	pieces := []string{"SIP/2.0/UDP", "sip/2.0/udP ", "A", ":1", ";", "=", " ", "\t", `"`, "<", ","}
	for _, s := range texts(5, pieces...) {
		want, none := read(s)
		if got, err := via.Parse(s); err != none || !alike(got, want) {
			t.Fatalf("Parse(%q) = %+v, %d, not %+v, %d", s, got, err, want, none)
		}
	}
	for _, rest := range texts(5, pieces[2:]...) {
		s := "SIP/2.0/UDP " + rest
		want, none := read(s)
		if got, err := via.Parse(s); err != none || !alike(got, want) {
			t.Fatalf("Parse(%q) = %+v, %d, not %+v, %d", s, got, err, want, none)
		}
	}
}

// sent is a message with some headers: of each pair a name and a value.
func sent(l ...string) api.Msg {
	m := api.Msg{Method: "OPTIONS", Target: "sip:a"}
	for i := 0; i+1 < len(l); i += 2 {
		m.Headers = append(m.Headers, api.Header{Name: l[i], Value: l[i+1]})
	}
	return m
}

// hosts are hops to some hosts, without more.
func hosts(l ...string) []api.Via {
	var all []api.Via
	for _, host := range l {
		all = append(all, hop(host, 0))
	}
	return all
}

func TestP7_3List(t *testing.T) {
	for _, x := range []struct {
		m    api.Msg
		want []api.Via
	}{
		{sent("Via", "SIP/2.0/UDP a"), hosts("a")},
		{sent("Via", "SIP/2.0/UDP a,SIP/2.0/UDP b"), hosts("a", "b")},
		{sent("Via", "SIP/2.0/UDP a , \t sip/2.0/udp B", "x", "SIP/2.0/UDP x", "vIA", "SIP/2.0/UDP c"), hosts("a", "b", "c")},
		{sent("Viaa", ",", "From", "SIP/2.0/UDP x", "VIA", "SIP/2.0/UDP b", "To", "1", "Via", "SIP/2.0/UDP a"), hosts("b", "a")},
		// Only a message that was never read has a compact name.
		{sent("v", "SIP/2.0/UDP b", "Via", "SIP/2.0/UDP a"), hosts("a")},
		{sent("Via", `SIP/2.0/UDP a;x="b,c";y,SIP/2.0/UDP b:9`), []api.Via{hop("a", 0, with("x", "b,c"), bare("y")), hop("b", 9)}},
		// One hop twice is two.
		{sent("Via", "SIP/2.0/UDP a", "Via", "SIP/2.0/UDP a"), hosts("a", "a")},
		// A message that may not be has hops, too.
		{api.Msg{Headers: []api.Header{{Name: "Via", Value: " SIP/2.0/UDP a "}}}, hosts("a")},
	} {
		if got, err := via.List(x.m); err != api.OK || !slices.EqualFunc(got, x.want, alike) {
			t.Errorf("List(%+v) = %+v, %d", x.m, got, err)
		}
	}
}

func TestP7_3ListWrong(t *testing.T) {
	for _, x := range []struct {
		m   api.Msg
		err api.Errno
	}{
		{api.Msg{}, api.ErrMissing},
		{sent("From", "SIP/2.0/UDP a", "v", "SIP/2.0/UDP a", "Via ", "SIP/2.0/UDP a"), api.ErrMissing},
		{sent("Via", ""), api.ErrVia},
		{sent("Via", ","), api.ErrVia},
		{sent("Via", "SIP/2.0/UDP a,"), api.ErrVia},
		{sent("Via", ",SIP/2.0/UDP a"), api.ErrVia},
		{sent("Via", "SIP/2.0/UDP a", "Via", ""), api.ErrVia},
		{sent("Via", "SIP/2.0/UDP a,b"), api.ErrVia},
		{sent("Via", "SIP/2.0/UDP a,SIP/2.0/UDP -,b"), api.ErrHost},
		{sent("Via", "SIP/2.0/UDP a:0", "Via", "b"), api.ErrPort},
		{sent("Via", "SIP/2.0/UDP a;,b"), api.ErrParam},
		{sent("Via", "SIP/2.0/UDP a"+strings.Repeat(";", 17)+",b"), api.ErrMany},
		{sent("Via", `SIP/2.0/UDP a;x="b,SIP/2.0/UDP c`), api.ErrParam},
	} {
		if got, err := via.List(x.m); err != x.err || len(got) > 0 {
			t.Errorf("List(%+v) = %+v, %d, not %d", x.m, got, err, x.err)
		}
	}
}

// inHeaders are n hops and what stands behind them, so many in a header.
func inHeaders(n, each int, behind ...string) api.Msg {
	all := slices.Concat(slices.Repeat([]string{"SIP/2.0/UDP a"}, n), behind)
	var m api.Msg
	for l := range slices.Chunk(all, each) {
		m.Headers = append(m.Headers, api.Header{Name: "Via", Value: strings.Join(l, ",")})
	}
	return m
}

func TestP7_3ListMany(t *testing.T) {
	for each := 1; each <= 20; each++ {
		for n := 1; n <= 20; n++ {
			l, err := via.List(inHeaders(n, each))
			if n <= 16 && (err != api.OK || len(l) != n) || n > 16 && (err != api.ErrMany || len(l) > 0) {
				t.Errorf("%d hops, %d in a header: %d, %d", n, each, len(l), err)
			}
			// Hop by hop the first error is told: behind sixteen hops and another
			// one nothing is looked at any more.
			l, err = via.List(inHeaders(n, each, "b"))
			want := api.ErrVia
			if n > 16 {
				want = api.ErrMany
			}
			if err != want || len(l) > 0 {
				t.Errorf("%d hops and a wrong one, %d in a header: %d, %d", n, each, len(l), err)
			}
		}
	}
}

// told are hops to be told there and back.
func told() []api.Via {
	var all []api.Via
	values := []string{"", "a", " ", " a ", `"`, `\`, `\"`, ",", ";", "<", ">", "<a>", "=", "[::1]", "[::A]", "A.b", "-a", "%41", "\t", "\x01", "\x7f", "é", "z9hG4bK1", "SIP/2.0/UDP b", strings.Repeat(`"`, 64), long(64)}
	for i, host := range []string{"a", "a.b.c", "1.2.3.4", "[::1]", "[::ffff:1.2.3.4]", "a-b", long(64)} {
		for _, v := range values {
			all = append(all, hop(host, i*9362, with("branch", v), bare("rport"), with("x", v)))
		}
		all = append(all, hop(host, 0), hop(host, 65535, counted(16)...))
	}
	return all
}

func TestP7_5PrintParse(t *testing.T) {
	for _, v := range told() {
		s, err := via.Print(v)
		if err != api.OK {
			t.Fatalf("Print(%+v): %d", v, err)
		}
		for _, written := range []string{s, "\t " + s + " ", strings.Replace(s, " ", "\t  ", 1)} {
			if got, err := via.Parse(written); err != api.OK || !alike(got, v) {
				t.Fatalf("Parse(%q) = %+v, %d, not %+v", written, got, err, v)
			}
		}
	}
}

func TestP7_5Bytes(t *testing.T) {
	for i := range 256 {
		c := string([]byte{byte(i)})
		for _, v := range []api.Via{
			hop("a"+c, 0), hop(c+"a", 1),
			hop("a", 0, bare("x"+c)), hop("a", 0, with("x", c), with("y", c+c)), hop("a", 0, with("x", "a"+c), bare("y")),
		} {
			s, err := via.Print(v)
			if err != api.OK {
				continue
			}
			if got, err := via.Parse(s); err != api.OK || !alike(got, v) {
				t.Errorf("Parse(%q) = %+v, %d", s, got, err)
			}
		}
	}
}

func TestP7_5ParsePrint(t *testing.T) {
	parsed := 0
	for _, rest := range texts(6, "A", ":1", ";", "=", "x", " ", `"`, `\`, ",") {
		v, err := via.Parse("sip/2.0/UDP\t" + rest)
		if err != api.OK {
			continue
		}
		parsed++
		s, err := via.Print(v)
		if err != api.OK {
			t.Fatalf("%q is parsed as %+v, which can't be printed: %d", rest, v, err)
		}
		if got, err := via.Parse(s); err != api.OK || !alike(got, v) {
			t.Fatalf("%q is printed as %q, and parsed as %+v, %d", rest, s, got, err)
		}
	}
	if parsed < 200 {
		t.Errorf("only %d texts are hops", parsed)
	}
}

func TestP7_5Headers(t *testing.T) {
	all := told()
	for n := 1; len(all) >= n; n = n%api.MaxList + 1 {
		var written []string
		for _, v := range all[:n] {
			s, _ := via.Print(v)
			written = append(written, s)
		}
		for _, between := range []string{",", " ,\t"} {
			for each := 1; each <= n; each++ {
				var m api.Msg
				for l := range slices.Chunk(written, each) {
					m.Headers = append(m.Headers, api.Header{Name: "Via", Value: strings.Join(l, between)})
				}
				if got, err := via.List(m); err != api.OK || !slices.EqualFunc(got, all[:n], alike) {
					t.Fatalf("List(%+v) = %+v, %d", m, got, err)
				}
			}
		}
		all = all[n:]
	}
}

func TestRuleMemoryParse(t *testing.T) {
	s := strings.Clone("SIP/2.0/UDP host.org;branch=z9hG4bK12;rport;quoted=\"some text\"")
	headers := make([]api.Header, 1, 3)
	headers[0] = api.Header{Name: "Via", Value: s}
	spare := headers[:3]
	spare[1] = api.Header{Name: "Via", Value: "kept"}
	v, err := via.Parse(s)
	if err != api.OK {
		t.Fatal(err)
	}
	m := api.Msg{Headers: headers}
	l, _ := via.List(m)
	again, _ := via.List(m)
	if len(l) != 1 || len(again) != 1 {
		t.Fatal(l, again)
	}
	for i, word := range wordsOf(v) {
		listed, other := wordsOf(l[0])[i], wordsOf(again[0])[i]
		if !apart(word, s) || !apart(listed, s) {
			t.Errorf("%q shares memory with its argument", word)
		}
		if !apart(word, listed) || !apart(listed, other) {
			t.Errorf("%q lies in two answers", word)
		}
	}
	l[0].Params[0] = bare("changed")
	if !alike(again[0], v) {
		t.Error("two answers share their parameters")
	}
	if spare[1] != (api.Header{Name: "Via", Value: "kept"}) || spare[2] != (api.Header{}) || headers[0].Value != s {
		t.Errorf("an argument was changed: %+v", spare)
	}
}
