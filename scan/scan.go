// Package scan looks at bytes as SIP does: classes, tokens, quoted texts,
// escapes and numbers.
package scan

import (
	"strings"

	"roster/api"
)

// The classes. Each is a bit of its own, so that a sum of them is a set.
const (
	Digit = 1 << iota
	Alpha
	Hex
	Tokens
	Plain
	Blank
	Hosts
)

// Class tells which classes a byte is of.
func Class(c byte) int {
	small := lower(c)
	switch {
	case '0' <= c && c <= '9':
		return Digit | Hex | Tokens | Plain | Hosts
	case 'a' <= small && small <= 'f':
		return Alpha | Hex | Tokens | Plain | Hosts
	case 'g' <= small && small <= 'z':
		return Alpha | Tokens | Plain | Hosts
	}
	return signClass(c)
}

// signClass tells the classes of a byte that is neither a digit nor a letter.
func signClass(c byte) int {
	switch c {
	case '-', '.':
		return Tokens | Plain | Hosts
	case '!', '~', '*', '_', '\'':
		return Tokens | Plain
	case '%', '+', '`':
		return Tokens
	case '(', ')':
		return Plain
	case ' ', '\t':
		return Blank
	}
	return 0
}

// is tells whether a byte is of one of some classes.
func is(c byte, class int) bool { return Class(c)&class != 0 }

// All tells whether all bytes are of one of some classes.
func All(s string, class int) bool {
	for i := range len(s) {
		if !is(s[i], class) {
			return false
		}
	}
	return true
}

// Token tells whether a text is a token.
func Token(s string) bool {
	return s != "" && len(s) <= api.MaxName && All(s, Tokens)
}

// lower tells a byte in small letters. Only the letters of ASCII have two
// forms here: the bytes above 127 are parts of signs that SIP never folds.
func lower(c byte) byte {
	if 'A' <= c && c <= 'Z' {
		return c + ('a' - 'A')
	}
	return c
}

// Lower tells a text in small letters.
func Lower(s string) string {
	out := make([]byte, len(s))
	for i := range len(s) {
		out[i] = lower(s[i])
	}
	return string(out)
}

// Same tells whether two texts are one but for capital letters.
func Same(a, b string) bool { return Lower(a) == Lower(b) }

// Trim takes the blanks off both ends.
func Trim(s string) string {
	from, to := 0, len(s)
	for from < to && is(s[from], Blank) {
		from++
	}
	for from < to && is(s[to-1], Blank) {
		to--
	}
	return piece(s, from, to)
}

// piece tells a part of a text, as a copy: an answer shares no memory with
// what was handed in, so a short one does not hold a long text alive.
func piece(s string, from, to int) string { return strings.Clone(s[from:to]) }
