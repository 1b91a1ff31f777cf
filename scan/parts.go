package scan

// Parts parts a text at a sign, but not in quoted texts, nor between angles.
func Parts(s string, sep byte) []string {
	var parts []string
	var p place
	from := 0
	for i := range len(s) {
		free := p.pass(s[i])
		if free && s[i] == sep {
			parts = append(parts, piece(s, from, i))
			from = i + 1
		}
	}
	return append(parts, piece(s, from, len(s)))
}

// place is what is open where one stands in a text. A quoted text or an angle
// that is never closed stays open up to the end.
type place struct {
	quoted  bool
	escaped bool
	angled  bool
}

// pass goes past a byte, and tells whether it stands free: it neither opens nor
// closes anything, and nothing is open around it.
func (p *place) pass(c byte) bool {
	switch {
	case p.escaped:
		p.escaped = false
	case c == '"':
		p.quoted = !p.quoted
	case p.quoted:
		p.escaped = c == '\\'
	case c == '<':
		p.angled = true
	case c == '>':
		p.angled = false
	default:
		return !p.angled
	}
	return false
}
