package addr

import (
	"strings"

	"roster/api"
	"roster/scan"
	"roster/uri"
)

// pieces are what an address is cut into: its name as it is read, its URI and
// what is left as they are written.
type pieces struct {
	display string
	uri     string
	rest    string
}

// Parse reads an address.
func Parse(s string) (api.Addr, api.Errno) {
	p, ok := cut(scan.Trim(s))
	if !ok {
		return api.Addr{}, api.ErrAddr
	}
	u, err := uri.Parse(p.uri)
	if err != api.OK {
		return api.Addr{}, err
	}
	parts := scan.Parts(p.rest, ';')
	if !scan.All(parts[0], scan.Blank) {
		return api.Addr{}, api.ErrAddr
	}
	l, err := Fields(parts[1:])
	if err != api.OK {
		return api.Addr{}, err
	}
	return api.Addr{Display: p.display, URI: u, Params: l}, api.OK
}

// cut cuts an address, and tells whether it can be cut.
func cut(s string) (pieces, bool) {
	if at := angle(s); at >= 0 {
		return cutAngled(s[:at], s[at+1:])
	}
	return cutPlain(s)
}

// angle tells where the first < stands that is not within a quoted text; below
// 0: nowhere. A quoted text that is never closed stays open up to the end.
func angle(s string) int {
	inside, escaped := false, false
	for i := range len(s) {
		switch {
		case escaped:
			escaped = false
		case s[i] == '"':
			inside = !inside
		case inside:
			escaped = s[i] == '\\'
		case s[i] == '<':
			return i
		}
	}
	return -1
}

// cutAngled cuts what stands ahead of and behind an angle.
func cutAngled(ahead, behind string) (pieces, bool) {
	display, ok := name(scan.Trim(ahead))
	if !ok {
		return pieces{}, false
	}
	inner, rest, closed := strings.Cut(behind, ">")
	return pieces{display: display, uri: inner, rest: rest}, closed
}

// cutPlain cuts an address without angles: its parameters are not its URI's, so
// that URI can't have any.
func cutPlain(s string) (pieces, bool) {
	ahead, behind, more := strings.Cut(s, ";")
	p := pieces{uri: scan.Trim(ahead)}
	if more {
		p.rest = ";" + behind
	}
	return p, !strings.ContainsAny(p.uri, `?,"`)
}

// name reads the name ahead of a URI, and tells whether it is one.
func name(s string) (string, bool) {
	if !strings.HasPrefix(s, `"`) {
		return words(s)
	}
	text, err := scan.Unquote(s)
	return text, err == api.OK && len(text) <= api.MaxName
}

// words reads a name that is not quoted: words, and one blank between any two,
// however many were written.
func words(s string) (string, bool) {
	at := 0
	next := func() string {
		for at < len(s) && blank(s[at]) {
			at++
		}
		from := at
		for at < len(s) && !blank(s[at]) {
			at++
		}
		return s[from:at]
	}
	var out []byte
look:
	for {
		one := next()
		switch {
		case one == "":
			break look
		case !scan.All(one, scan.Tokens):
			return "", false
		case len(out) > 0:
			out = append(out, ' ')
		}
		out = append(out, one...)
	}
	return string(out), len(out) <= api.MaxName
}

// blank tells whether a byte is a blank.
func blank(c byte) bool { return scan.Class(c)&scan.Blank != 0 }

// List reads addresses with commas between.
func List(s string) ([]api.Addr, api.Errno) {
	parts := scan.Parts(s, ',')
	if len(parts) > api.MaxList {
		return nil, api.ErrMany
	}
	var l []api.Addr
	for _, part := range parts {
		a, err := Parse(part)
		if err != api.OK {
			return nil, err
		}
		l = append(l, a)
	}
	return l, api.OK
}
