package scan

import "roster/api"

const hexDigits = "0123456789ABCDEF"

// Escape writes all but plain bytes, and some others, as escapes.
func Escape(s, keep string) string {
	var kept [256]bool
	for i := range len(keep) {
		kept[keep[i]] = true
	}
	// A % that stood for itself would be read as an escape.
	kept['%'] = false
	out := make([]byte, 0, len(s))
	for i := range len(s) {
		c := s[i]
		if is(c, Plain) || kept[c] {
			out = append(out, c)
		} else {
			out = append(out, '%', hexDigits[c>>4], hexDigits[c&15])
		}
	}
	return string(out)
}

// Unescape reads escapes.
func Unescape(s string) (string, api.Errno) {
	out := make([]byte, 0, len(s))
	for i := 0; i < len(s); i++ {
		c := s[i]
		if c == '%' {
			if len(s)-i < 3 || !All(s[i+1:i+3], Hex) {
				return "", api.ErrEscape
			}
			c = hexValue(s[i+1])<<4 | hexValue(s[i+2])
			i += 2
		}
		out = append(out, c)
	}
	return string(out), api.OK
}

// hexValue tells the number that a byte of Hex stands for.
func hexValue(c byte) byte {
	if is(c, Digit) {
		return c - '0'
	}
	return lower(c) - 'a' + 10
}
