package scan

import "roster/api"

// bare tells whether a byte may stand in a quoted text as it is.
func bare(c byte) bool {
	return c == '\t' || c >= ' ' && c != '"' && c != '\\' && c != 127
}

// barred tells whether a byte may not stand in a quoted text at all, not even
// behind a backslash: it might end a line, or a text.
func barred(c byte) bool { return c == 0 || c == '\n' || c == '\r' }

// Quote writes a quoted text.
func Quote(s string) (string, api.Errno) {
	out := make([]byte, 0, len(s)+2)
	out = append(out, '"')
	for i := range len(s) {
		if barred(s[i]) {
			return "", api.ErrQuote
		}
		if !bare(s[i]) {
			out = append(out, '\\')
		}
		out = append(out, s[i])
	}
	return string(append(out, '"')), api.OK
}

// Unquote reads a quoted text.
func Unquote(s string) (string, api.Errno) {
	if len(s) < 2 || s[0] != '"' || s[len(s)-1] != '"' {
		return "", api.ErrQuote
	}
	inner := s[1 : len(s)-1]
	out := make([]byte, 0, len(inner))
	for i := 0; i < len(inner); i++ {
		// A backslash at the end has only the closing mark behind it, which it
		// would take away: it is looked at as any other byte, and is not bare.
		if inner[i] == '\\' && i+1 < len(inner) {
			i++
			if barred(inner[i]) || inner[i] > 127 {
				return "", api.ErrQuote
			}
		} else if !bare(inner[i]) {
			return "", api.ErrQuote
		}
		out = append(out, inner[i])
	}
	return string(out), api.OK
}
