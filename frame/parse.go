package frame

import (
	"strings"

	"roster/api"
	"roster/scan"
)

// statusDigits is how many digits a Status is written with.
const statusDigits = 3

// Parse reads a message.
func Parse(s string) (api.Msg, api.Errno) {
	if len(s) > api.MaxBytes {
		return api.Msg{}, api.ErrLong
	}
	ahead, behind, ended := strings.Cut(s, lineEnd+lineEnd)
	if !ended || strings.HasPrefix(s, lineEnd) {
		return api.Msg{}, api.ErrEnd
	}
	lines := unfold(strings.Split(ahead, lineEnd))
	m, ok := start(lines[0])
	if !ok {
		return api.Msg{}, api.ErrStart
	}
	headers, length, err := headersOf(lines[1:])
	if err != api.OK {
		return api.Msg{}, err
	}
	if length < 0 {
		length = len(behind)
	}
	if length > len(behind) {
		return api.Msg{}, api.ErrLength
	}
	m.Headers = headers
	m.Body = strings.Clone(behind[:length])
	return m, api.OK
}

// unfold puts each line that goes on another one to that one. The second line
// is left alone: a first line is never folded.
func unfold(lines []string) []string {
	var whole []string
	for i, line := range lines {
		if i > 1 && goesOn(line) {
			whole[len(whole)-1] += " " + scan.Trim(line)
		} else {
			whole = append(whole, line)
		}
	}
	return whole
}

// goesOn tells whether a line goes on the one ahead: it begins with a blank. It
// is not empty, as the empty one ends them all.
func goesOn(line string) bool { return scan.Class(line[0])&scan.Blank != 0 }

// start reads a first line, and tells whether it is one that may be. What
// begins with the version can't be a request: no token has a slash.
func start(line string) (api.Msg, bool) {
	first, more, _ := strings.Cut(line, " ")
	second, rest, ok := strings.Cut(more, " ")
	if !ok {
		return api.Msg{}, false
	}
	var m api.Msg
	switch {
	case scan.Same(first, version):
		m.Status, ok = statusOf(second)
		m.Reason = strings.Clone(rest)
	case scan.Same(rest, version):
		m.Method, m.Target = strings.Clone(first), strings.Clone(second)
	}
	return m, ok && startMayBe(m)
}

// statusOf reads a Status, and tells whether it is written as one.
func statusOf(s string) (int, bool) {
	if len(s) != statusDigits {
		return 0, false
	}
	n, err := scan.Number(s, mostStatus)
	return n, err == api.OK
}

// headersOf reads the lines behind the first one: the headers, and the length
// of the body; below 0: none is told.
func headersOf(lines []string) ([]api.Header, int, api.Errno) {
	var l []api.Header
	length := -1
	for _, line := range lines {
		h, ok := header(line)
		switch {
		case !ok:
			return nil, 0, api.ErrHeader
		case isLength(h.Name):
			n, err := scan.Number(h.Value, api.MaxBytes)
			if err != api.OK || length >= 0 {
				return nil, 0, api.ErrLength
			}
			length = n
		case len(l) == api.MaxHeaders:
			return nil, 0, api.ErrMany
		default:
			l = append(l, h)
		}
	}
	return l, length, api.OK
}

// header reads a line, and tells whether it is a header.
func header(line string) (api.Header, bool) {
	ahead, behind, ok := strings.Cut(line, ":")
	name := trimEnd(ahead)
	return api.Header{Name: Long(name), Value: scan.Trim(behind)}, ok && scan.Token(name) && visible(behind)
}

// trimEnd takes the blanks off a text's end alone: ahead of a name none may
// stand.
func trimEnd(s string) string { return strings.TrimRight(s, " \t") }
