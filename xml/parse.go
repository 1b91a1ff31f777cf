package xml

import (
	"strings"

	"roster/api"
)

// Parse reads a document.
func Parse(s string) ([]api.Node, api.Errno) {
	if len(s) > api.MaxBytes {
		return nil, api.ErrLong
	}
	r := reader{rest: s}
	return attempt(r.document)
}

// attempt lets a reader read, and tells why, if it gives up.
func attempt(read func() []api.Node) (l []api.Node, err api.Errno) {
	defer func() {
		switch why := recover().(type) {
		case nil:
		case api.Errno:
			l, err = nil, why
		default:
			// The reader gives up by nothing else; but no call may panic.
			l, err = nil, api.ErrXML
		}
	}()
	return read(), api.OK
}

// reader reads a text from its beginning on. It gives up by a panic with an
// error's number, which attempt waits for.
type reader struct {
	rest  string
	nodes []api.Node
}

// giveUp ends the reading: the text is no document.
func giveUp() { panic(api.ErrXML) }

// document reads all of the text.
func (r *reader) document() []api.Node {
	if r.took("<?xml") {
		r.upTo("?")
		r.must("?>")
	}
	r.skip()
	r.element(0)
	r.skip()
	if r.rest != "" || Check(r.nodes) != api.OK {
		giveUp()
	}
	return r.nodes
}

// element reads an element, and all in it.
func (r *reader) element(deep int) {
	r.must("<")
	name := r.upTo(blanks + "/>")
	attrs := r.attrs()
	at := len(r.nodes)
	r.nodes = append(r.nodes, api.Node{Deep: deep, Name: strings.Clone(name), Attrs: attrs})
	if r.took("/>") {
		return
	}
	r.must(">")
	// Kept apart: reading it moves the nodes, among which it is then put.
	text := r.inner(deep + 1)
	r.nodes[at].Text = text
	r.must("</")
	r.must(name)
	r.skip()
	r.must(">")
}

// attrs reads attributes, and the blanks behind them.
func (r *reader) attrs() []api.Param {
	var l []api.Param
	for r.skip() && !r.sees(">") && !r.sees("/>") {
		l = append(l, r.attr())
	}
	return l
}

// attr reads an attribute.
func (r *reader) attr() api.Param {
	name := strings.TrimRight(r.upTo("="), blanks)
	r.must("=")
	r.skip()
	value := r.value()
	return api.Param{Name: strings.Clone(name), Value: plain(value), Has: true}
}

// value reads what stands between two marks.
func (r *reader) value() string {
	mark := `"`
	if r.sees("'") {
		mark = "'"
	}
	r.must(mark)
	value := r.upTo(mark)
	r.must(mark)
	if strings.Contains(value, "<") {
		giveUp()
	}
	return value
}

// inner reads texts and elements by turns, up to the end of the element around
// them, and tells the Text. No blank is written by an &, so that it is enough
// to take those at the ends off once.
func (r *reader) inner(deep int) string {
	text := r.upTo("<")
	for !r.sees("</") {
		r.element(deep)
		text += r.upTo("<")
	}
	return plain(strings.Trim(text, blanks))
}

// plain reads the signs that are written by an &. It tells a copy: nothing of
// the answer lies in the text that was handed in.
func plain(s string) string {
	ahead, rest, more := strings.Cut(s, "&")
	out := []byte(ahead)
	for more {
		name, behind, ended := strings.Cut(rest, ";")
		sign, known := signOf(name)
		if !ended || !known {
			giveUp()
		}
		ahead, rest, more = strings.Cut(behind, "&")
		out = append(out, sign)
		out = append(out, ahead...)
	}
	return string(out)
}

// signOf tells the sign that a name between an & and a ; stands for, and
// whether there is one.
func signOf(name string) (byte, bool) {
	switch name {
	case "amp":
		return '&', true
	case "lt":
		return '<', true
	case "gt":
		return '>', true
	case "quot":
		return '"', true
	case "apos":
		return '\'', true
	}
	return 0, false
}

// sees tells whether the rest begins with a text.
func (r *reader) sees(s string) bool { return strings.HasPrefix(r.rest, s) }

// took goes past a text, if the rest begins with it, and tells whether it does.
func (r *reader) took(s string) bool {
	rest, ok := strings.CutPrefix(r.rest, s)
	r.rest = rest
	return ok
}

// must goes past a text that has to stand there.
func (r *reader) must(s string) {
	if !r.took(s) {
		giveUp()
	}
}

// skip goes past blanks, and tells whether there was one.
func (r *reader) skip() bool {
	rest := strings.TrimLeft(r.rest, blanks)
	some := len(rest) < len(r.rest)
	r.rest = rest
	return some
}

// upTo goes up to the next of some signs, which has to come, and tells what it
// went past.
func (r *reader) upTo(signs string) string {
	i := strings.IndexAny(r.rest, signs)
	if i < 0 {
		giveUp()
	}
	past := r.rest[:i]
	r.rest = r.rest[i:]
	return past
}
