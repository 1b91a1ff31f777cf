package xml

import (
	"strings"

	"roster/api"
)

// firstLine stands ahead of each document that is written.
const firstLine = `<?xml version="1.0" encoding="UTF-8"?>` + "\n"

// Print writes a document.
func Print(l []api.Node) (string, api.Errno) {
	if err := Check(l); err != api.OK {
		return "", err
	}
	var out strings.Builder
	out.WriteString(firstLine)
	writeElement(&out, l, 0)
	return out.String(), api.OK
}

// writeElement writes the element at a place, and all in it.
func writeElement(out *strings.Builder, l []api.Node, at int) {
	n := l[at]
	out.WriteString("<" + n.Name)
	for _, p := range n.Attrs {
		out.WriteString(" " + p.Name + `="`)
		writeText(out, p.Value)
		out.WriteString(`"`)
	}
	kids := Kids(l, at)
	if n.Text == "" && len(kids) == 0 {
		out.WriteString("/>")
		return
	}
	out.WriteString(">")
	writeText(out, n.Text)
	for _, kid := range kids {
		writeElement(out, l, kid)
	}
	out.WriteString("</" + n.Name + ">")
}

// writeText writes a text or a value. An apostrophe may stand as it is, as
// values are written between other marks.
func writeText(out *strings.Builder, s string) {
	for i := range len(s) {
		switch s[i] {
		case '&':
			out.WriteString("&amp;")
		case '<':
			out.WriteString("&lt;")
		case '>':
			out.WriteString("&gt;")
		case '"':
			out.WriteString("&quot;")
		default:
			out.WriteByte(s[i])
		}
	}
}
