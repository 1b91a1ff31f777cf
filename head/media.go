package head

import (
	"strings"

	"roster/scan"
)

// all is the range that takes every type.
const all = "*/*"

// Type reads a media type, without its parameters.
func Type(s string) (string, bool) {
	name := scan.Lower(scan.Trim(scan.Parts(s, ';')[0]))
	front, back, _ := strings.Cut(name, "/")
	return name, scan.Token(front) && scan.Token(back)
}

// Accepts tells whether one of some ranges takes a type.
func Accepts(l []string, t string) bool {
	kind, ok := Type(t)
	if !ok {
		return false
	}
	front, _, _ := strings.Cut(kind, "/")
	for _, s := range l {
		// A range that is one of these is written as a type must be.
		switch taken, _ := Type(s); taken {
		case kind, all, front + "/*":
			return true
		}
	}
	return false
}
