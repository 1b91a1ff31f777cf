package uri

import (
	"strings"

	"roster/api"
	"roster/scan"
)

// leastNumbered is how many bytes the shortest host in brackets has: [::].
const leastNumbered = 4

// Host tells whether a text is a host, in small letters.
func Host(s string) bool {
	if len(s) > api.MaxName || s != scan.Lower(s) {
		return false
	}
	if strings.HasPrefix(s, "[") {
		return numbered(s)
	}
	for _, part := range strings.Split(s, ".") {
		if !label(part) {
			return false
		}
	}
	return true
}

// numbered tells whether a text that begins with a bracket is a host.
func numbered(s string) bool {
	if len(s) < leastNumbered || !strings.HasSuffix(s, "]") {
		return false
	}
	colons := 0
	for i := 1; i < len(s)-1; i++ {
		if s[i] == ':' {
			colons++
		} else if s[i] != '.' && scan.Class(s[i])&scan.Hex == 0 {
			return false
		}
	}
	return colons >= 2
}

// label tells whether a text may stand between the points of a host.
func label(s string) bool {
	return s != "" && scan.All(s, scan.Hosts) && !strings.HasPrefix(s, "-") && !strings.HasSuffix(s, "-")
}

// Where reads a host, and a port, if there is one.
func Where(s string) (string, int, api.Errno) {
	ahead, behind, told := cutPort(s)
	host := scan.Lower(ahead)
	if !Host(host) {
		return "", 0, api.ErrHost
	}
	if !told {
		return host, 0, api.OK
	}
	port, err := scan.Number(behind, mostPort)
	// Nought stands for no port, so none may be told by it.
	if err != api.OK || port == 0 {
		return "", 0, api.ErrPort
	}
	return host, port, api.OK
}

// cutPort cuts a text at its first colon outside of brackets, and tells whether
// there is one. A bracket that is never closed may stay open up to the end:
// what has one is no host, wherever it is cut.
func cutPort(s string) (string, string, bool) {
	inside := false
	for i := range len(s) {
		switch {
		case s[i] == '[':
			inside = true
		case s[i] == ']':
			inside = false
		case s[i] == ':' && !inside:
			return s[:i], s[i+1:], true
		}
	}
	return s, "", false
}
