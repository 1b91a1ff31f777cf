package addr_test

import (
	"regexp"
	"strings"
	"testing"

	"roster/addr"
	"roster/api"
	"roster/scan"
	"roster/uri"
)

func TestP5_4ParseAngles(t *testing.T) {
	for s, want := range map[string]api.Addr{
		"Bob  B <sip:b@c;lr>;tag=1":             {Display: "Bob B", URI: api.URI{Scheme: "sip", User: "b", Host: "c", Params: list(bare("lr"))}, Params: list(with("tag", "1"))},
		"<sip:b@c>":                             {URI: bob()},
		"\t <SIP:b@C> ":                         {URI: bob()},
		"\t Bob\t <sip:b@c>":                    {Display: "Bob", URI: bob()},
		"Bob<sip:b@c>":                          {Display: "Bob", URI: bob()},
		"a \t b\tc <sip:b@c>":                   {Display: "a b c", URI: bob()},
		"-.!%*_+`'~ 09azAZ <sip:b@c>":           {Display: "-.!%*_+`'~ 09azAZ", URI: bob()},
		`"Bob  B"<sip:b@c>`:                     {Display: "Bob  B", URI: bob()},
		` " Bob " <sip:b@c>`:                    {Display: " Bob ", URI: bob()},
		`"" <sip:b@c>`:                          {URI: bob()},
		`"a\"b\\" <sip:b@c>`:                    {Display: `a"b\`, URI: bob()},
		`"<x>" <sip:b@c>`:                       {Display: "<x>", URI: bob()},
		`"\"<x>" <sip:b@c>`:                     {Display: `"<x>`, URI: bob()},
		`"\\"<sip:b@c>`:                         {Display: `\`, URI: bob()},
		`"é,;=?" <sip:b@c>`:                     {Display: "é,;=?", URI: bob()},
		"<sip:a,b;d?e@c?x=1>":                   {URI: api.URI{Scheme: "sip", User: "a,b;d?e", Host: "c", Headers: list(with("x", "1"))}},
		"<sip:b@c>;lr":                          {URI: bob(), Params: list(bare("lr"))},
		"<sip:b@c> \t; lr ; x = 1 ":             {URI: bob(), Params: list(bare("lr"), with("x", "1"))},
		`<sip:b@c>;x=";<>\";";y`:                {URI: bob(), Params: list(with("x", `;<>";`), bare("y"))},
		`<sip:b@c>;x=">"`:                       {URI: bob(), Params: list(with("x", ">"))},
		"<sip:b@c;x=1>;x=2;y=[::1]":             {URI: api.URI{Scheme: "sip", User: "b", Host: "c", Params: list(with("x", "1"))}, Params: list(with("x", "2"), with("y", "[::1]"))},
		long(64) + " <sip:b@c>":                 {Display: long(64), URI: bob()},
		"a" + blanks(90) + "b<sip:b@c>":         {Display: "a b", URI: bob()},
		blanks(90) + "<sip:b@c>":                {URI: bob()},
		`"` + blanks(64) + `"<sip:b@c>`:         {Display: blanks(64), URI: bob()},
		`"` + marks(64) + `"<sip:b@c>`:          {Display: strings.Repeat(`"`, 64), URI: bob()},
		long(32) + " " + long(31) + "<sip:b@c>": {Display: long(32) + " " + long(31), URI: bob()},
	} {
		if got, err := addr.Parse(s); err != api.OK || !alike(got, want) {
			t.Errorf("Parse(%q) = %+v, %d", s, got, err)
		}
	}
}

// blanks are n blanks.
func blanks(n int) string { return strings.Repeat(" ", n) }

// marks are n quotation marks, as they stand in a quoted text.
func marks(n int) string { return strings.Repeat(`\"`, n) }

func TestP5_4ParsePlain(t *testing.T) {
	for s, want := range map[string]api.Addr{
		"sip:b@c;tag=1":             {URI: bob(), Params: list(with("tag", "1"))},
		"sip:b@c":                   {URI: bob()},
		" \tsip:b@c\t ":             {URI: bob()},
		"sip:b@c ;lr":               {URI: bob(), Params: list(bare("lr"))},
		"SIP:b@C\t; tag = 1 ; lr":   {URI: bob(), Params: list(with("tag", "1"), bare("lr"))},
		"pres:c":                    {URI: api.URI{Scheme: "pres", Host: "c"}},
		"sips:b@[::1]:5061;x=[::2]": {URI: api.URI{Scheme: "sips", User: "b", Host: "[::1]", Port: 5061}, Params: list(with("x", "[::2]"))},
		`sip:b@c;x="<sip:d@e>"`:     {URI: bob(), Params: list(with("x", "<sip:d@e>"))},
		`sip:b@c;x="a?,;b";y`:       {URI: bob(), Params: list(with("x", "a?,;b"), bare("y"))},
		`sip:b@c;x="\"<";y="<"`:     {URI: bob(), Params: list(with("x", `"<`), with("y", "<"))},
		`sip:b@c;x="\\";y`:          {URI: bob(), Params: list(with("x", `\`), bare("y"))},
		"sip:a%3F%2C%22%3B%3C@c":    {URI: api.URI{Scheme: "sip", User: `a?,";<`, Host: "c"}},
	} {
		if got, err := addr.Parse(s); err != api.OK || !alike(got, want) {
			t.Errorf("Parse(%q) = %+v, %d", s, got, err)
		}
	}
}

func TestP5_4ParseWrong(t *testing.T) {
	for s, want := range map[string]api.Errno{
		// The name.
		"a,b <sip:b@c>":                         api.ErrAddr,
		"a;b <sip:b@c>":                         api.ErrAddr,
		"é <sip:b@c>":                           api.ErrAddr,
		"a(b) <sip:b@c>":                        api.ErrAddr,
		"a> <sip:b@c>":                          api.ErrAddr,
		"a\n<sip:b@c>":                          api.ErrAddr,
		"[::1] <sip:b@c>":                       api.ErrAddr,
		`a\ <sip:b@c>`:                          api.ErrAddr,
		`a "b" <sip:b@c>`:                       api.ErrAddr,
		`"a" b <sip:b@c>`:                       api.ErrAddr,
		`"a" "b" <sip:b@c>`:                     api.ErrAddr,
		`"a <sip:b@c>`:                          api.ErrAddr,
		`a" <sip:b@c>`:                          api.ErrAddr,
		`"a\" <sip:b@c>`:                        api.ErrAddr,
		"\"a\nb\" <sip:b@c>":                    api.ErrAddr,
		"\"\\\xff\" <sip:b@c>":                  api.ErrAddr,
		"sip:b@c <sip:b@c>":                     api.ErrAddr,
		"sip:b@c;x=<y>":                         api.ErrAddr,
		long(65) + " <sip:b@c>":                 api.ErrAddr,
		long(32) + " " + long(32) + "<sip:b@c>": api.ErrAddr,
		`"` + long(65) + `" <sip:b@c>`:          api.ErrAddr,
		`"` + marks(65) + `" <sip:b@c>`:         api.ErrAddr,
		// The URI.
		"<sip:b@c":        api.ErrAddr,
		"<":               api.ErrAddr,
		`"a" <sip:b@c">"`: api.ErrHost,
		"<>":              api.ErrScheme,
		"<<sip:b@c>>":     api.ErrScheme,
		"< sip:b@c>":      api.ErrScheme,
		"<sip:b@c >":      api.ErrHost,
		"<tel:1>":         api.ErrScheme,
		"<sip:@c>":        api.ErrUser,
		"<sip:b@c_>":      api.ErrHost,
		"<sip:b@c:0>":     api.ErrPort,
		"<sip:b@c;x;X>":   api.ErrParam,
		"<sip:b@c?x>":     api.ErrParam,
		"":                api.ErrScheme,
		" \t":             api.ErrScheme,
		";":               api.ErrScheme,
		"b@c":             api.ErrScheme,
		"sip:b@c d":       api.ErrHost,
		"sip:b@c>":        api.ErrHost,
		"sip:b;x@c":       api.ErrParam,
		"sip:b@c?x=1":     api.ErrAddr,
		"sip:b?@c":        api.ErrAddr,
		"sip:b,d@c":       api.ErrAddr,
		"sip:b@c,":        api.ErrAddr,
		`sip:"b"@c`:       api.ErrAddr,
		`"sip:b@c"`:       api.ErrAddr,
		`"`:               api.ErrAddr,
		`"<`:              api.ErrAddr,
		"tel:1?;x":        api.ErrAddr,
		// What is left.
		"<sip:b@c>x":                           api.ErrAddr,
		"<sip:b@c> x;lr":                       api.ErrAddr,
		"<sip:b@c>>":                           api.ErrAddr,
		"<sip:b@c>,<sip:d@e>":                  api.ErrAddr,
		"<sip:b@c>\n;lr":                       api.ErrAddr,
		`<sip:b@c>";x"`:                        api.ErrAddr,
		"<sip:b@c>;":                           api.ErrParam,
		"<sip:b@c>;;x":                         api.ErrParam,
		"<sip:b@c>;x=":                         api.ErrParam,
		"<sip:b@c>;x=<y>":                      api.ErrParam,
		"<sip:b@c>;a;A":                        api.ErrParam,
		`<sip:b@c>;x="a`:                       api.ErrParam,
		`<sip:b@c>;x="a;y`:                     api.ErrParam,
		"<sip:b@c>;x=a?b":                      api.ErrParam,
		"sip:b@c;":                             api.ErrParam,
		"sip:b@c;;":                            api.ErrParam,
		"sip:b@c;x?y=1":                        api.ErrParam,
		"sip:b@c;x,sip:d@e":                    api.ErrParam,
		`sip:b@c;x="a <sip:d@e>`:               api.ErrParam,
		"<sip:b@c>" + strings.Repeat(";x", 17): api.ErrMany,
		"sip:b@c" + strings.Repeat(";", 17):    api.ErrMany,
		// The first error is told.
		"a,b <sip:b@c":                          api.ErrAddr,
		"a,b <tel:1>;x=":                        api.ErrAddr,
		"a <tel:1":                              api.ErrAddr,
		"a <tel:1>x":                            api.ErrScheme,
		"<tel:1>;x=":                            api.ErrScheme,
		"tel:1;x=":                              api.ErrScheme,
		"<sip:b@c:0>;;":                         api.ErrPort,
		"<sip:b@c>x;;":                          api.ErrAddr,
		"<sip:b@c>x" + strings.Repeat(";x", 17): api.ErrAddr,
	} {
		if got, err := addr.Parse(s); err != want || !empty(got) {
			t.Errorf("Parse(%q) = %+v, %d, not %d", s, got, err, want)
		}
	}
}

var (
	angled = regexp.MustCompile(`(?s)^((?:[^"<]|"(?:[^"\\]|\\.)*")*)<(.*)$`)
	named  = regexp.MustCompile("^(?:[-.!%*_+`'~0-9A-Za-z]+(?:[ \t]+[-.!%*_+`'~0-9A-Za-z]+)*)?$")
	gaps   = regexp.MustCompile("[ \t]+")
)

// told reads an address as P5.4 says it, by other means.
func told(s string) (api.Addr, api.Errno) {
	var a api.Addr
	s = strings.Trim(s, " \t")
	inner, rest := s, ""
	if m := angled.FindStringSubmatch(s); m != nil {
		ahead := strings.Trim(m[1], " \t")
		if strings.HasPrefix(ahead, `"`) {
			text, err := scan.Unquote(ahead)
			if err != api.OK {
				return api.Addr{}, api.ErrAddr
			}
			a.Display = text
		} else {
			if !named.MatchString(ahead) {
				return api.Addr{}, api.ErrAddr
			}
			a.Display = gaps.ReplaceAllString(ahead, " ")
		}
		to := strings.Index(m[2], ">")
		if to < 0 || len(a.Display) > 64 {
			return api.Addr{}, api.ErrAddr
		}
		inner, rest = m[2][:to], m[2][to+1:]
	} else {
		if to := strings.Index(s, ";"); to >= 0 {
			inner, rest = s[:to], s[to:]
		}
		inner = strings.Trim(inner, " \t")
		if strings.Contains(inner, "?") || strings.Contains(inner, ",") || strings.Contains(inner, `"`) {
			return api.Addr{}, api.ErrAddr
		}
	}
	return toldRest(a, inner, rest)
}

// toldRest reads a URI, and what is left behind it.
func toldRest(a api.Addr, inner, rest string) (api.Addr, api.Errno) {
	u, err := uri.Parse(inner)
	if err != api.OK {
		return api.Addr{}, err
	}
	parts := scan.Parts(rest, ';')
	if strings.Trim(parts[0], " \t") != "" {
		return api.Addr{}, api.ErrAddr
	}
	l, err := addr.Fields(parts[1:])
	if err != api.OK {
		return api.Addr{}, err
	}
	a.URI, a.Params = u, l
	return a, api.OK
}

func TestP5_4ParseAll(t *testing.T) {
	for _, s := range texts(6, "<", ">", `"`, `\`, ";", " ", "sip:b", "x") {
		want, none := told(s)
		if got, err := addr.Parse(s); err != none || !alike(got, want) {
			t.Fatalf("Parse(%q) = %+v, %d, not %+v, %d", s, got, err, want, none)
		}
	}
	for _, s := range texts(4, "<sip:b>", "<", ">", `"`, `\"`, ";", "\t", "x=", "sip:", "c", "?", ",") {
		want, none := told(s)
		if got, err := addr.Parse(s); err != none || !alike(got, want) {
			t.Fatalf("Parse(%q) = %+v, %d, not %+v, %d", s, got, err, want, none)
		}
	}
}

func TestP5_4ParseBytes(t *testing.T) {
	for i := range 256 {
		c := string([]byte{byte(i)})
		for _, s := range []string{c, "a" + c + "b <sip:b@c>", c + "<sip:b@c>", `"a` + c + `" <sip:b@c>`, `"a\` + c + `" <sip:b@c>`, "<sip:b@c" + c + ">", "<sip:b@c>" + c, "sip:b@c" + c, c + "sip:b@c;x", "sip:b@c" + c + ";x", "<sip:b@c>" + c + ";x"} {
			want, none := told(s)
			if got, err := addr.Parse(s); err != none || !alike(got, want) {
				t.Errorf("Parse(%q) = %+v, %d, not %+v, %d", s, got, err, want, none)
			}
		}
	}
}

func TestP5_5List(t *testing.T) {
	d := api.Addr{URI: api.URI{Scheme: "sip", User: "d", Host: "e"}}
	for s, want := range map[string][]api.Addr{
		"sip:b@c":                       {{URI: bob()}},
		"sip:b@c,sip:d@e":               {{URI: bob()}, d},
		" <sip:b@c> \t, sip:d@e ":       {{URI: bob()}, d},
		"sip:b@c;x=1,sip:d@e":           {{URI: bob(), Params: list(with("x", "1"))}, d},
		`<sip:a,b@c>, "x,y" <sip:d@e>`:  {{URI: api.URI{Scheme: "sip", User: "a,b", Host: "c"}}, {Display: "x,y", URI: d.URI}},
		`sip:b@c;x="a,\",b",sip:d@e`:    {{URI: bob(), Params: list(with("x", `a,",b`))}, d},
		"sip:d@e,sip:d@e,sip:d@e;tag=1": {d, d, {URI: d.URI, Params: list(with("tag", "1"))}},
	} {
		got, err := addr.List(s)
		if err != api.OK || len(got) != len(want) {
			t.Errorf("List(%q) = %+v, %d", s, got, err)
			continue
		}
		for i := range got {
			if !alike(got[i], want[i]) {
				t.Errorf("List(%q)[%d] = %+v", s, i, got[i])
			}
		}
	}
}

func TestP5_5ListWrong(t *testing.T) {
	sixteen := strings.Repeat("sip:b@c,", 15) + "sip:b@c"
	if l, err := addr.List(sixteen); err != api.OK || len(l) != 16 || !alike(l[15], api.Addr{URI: bob()}) {
		t.Errorf("16 addresses: %+v, %d", l, err)
	}
	for s, want := range map[string]api.Errno{
		"":                                   api.ErrScheme,
		" ":                                  api.ErrScheme,
		",":                                  api.ErrScheme,
		"sip:b@c,":                           api.ErrScheme,
		",sip:b@c":                           api.ErrScheme,
		"sip:b@c,,sip:d@e":                   api.ErrScheme,
		"sip:b@c?x=1":                        api.ErrAddr,
		"<sip:b@c>x,tel:1":                   api.ErrAddr,
		"tel:1,<sip:b@c>x":                   api.ErrScheme,
		"sip:b@c,sip:@d,sip:e:0":             api.ErrUser,
		"sip:b@c,sip:e:0,sip:@d":             api.ErrPort,
		"<sip:b@c,sip:d@e":                   api.ErrAddr,
		`"a, <sip:b@c>, sip:d@e`:             api.ErrAddr,
		"sip:b@c,sip:d@e;x;x":                api.ErrParam,
		sixteen + ",sip:b@c":                 api.ErrMany,
		sixteen + ",":                        api.ErrMany,
		strings.Repeat(",", 16):              api.ErrMany,
		strings.Repeat(",", 15):              api.ErrScheme,
		"tel:1" + strings.Repeat(",", 16):    api.ErrMany,
		"sip:b@c" + strings.Repeat(";x", 17): api.ErrMany,
	} {
		if l, err := addr.List(s); err != want || len(l) != 0 {
			t.Errorf("List(%q) = %+v, %d, not %d", s, l, err, want)
		}
	}
}

func TestRuleMemoryParse(t *testing.T) {
	for _, s := range []string{`"Bob" <sip:bob@host;lr=one?to=two>;tag=word;quot="text";bare`, "Bob Bobson <sip:host>;tag=word", "Bob <sip:host>", "sip:bob@host;tag=word"} {
		s = strings.Clone(s)
		a, err := addr.Parse(s)
		if err != api.OK {
			t.Fatalf("Parse(%q): %d", s, err)
		}
		l, err := addr.List(s)
		if err != api.OK || len(l) != 1 {
			t.Fatalf("List(%q): %d", s, err)
		}
		given := append(wordsOf(a), s)
		for i, x := range given {
			for _, y := range append(wordsOf(l[0]), given[i+1:]...) {
				if !apart(x, y) {
					t.Errorf("of %q: %q and %q share memory", s, x, y)
				}
			}
		}
	}
}
