package pidf

import (
	"roster/api"
	"roster/xml"
)

// space is the name that tells these documents from all others.
const space = "urn:ietf:params:xml:ns:pidf"

// Print writes a document.
func Print(d api.Doc) (string, api.Errno) {
	if err := Check(d); err != api.OK {
		return "", err
	}
	return xml.Print(elements(d))
}

// elements tells a document's elements.
func elements(d api.Doc) []api.Node {
	l := []api.Node{{Name: presence, Attrs: []api.Param{attr("xmlns", space), attr(entity, "pres:"+d.Entity)}}}
	for _, t := range d.Tuples {
		l = append(l, tupleElements(t)...)
	}
	for _, s := range d.Notes {
		l = append(l, api.Node{Deep: 1, Name: note, Text: s})
	}
	return l
}

// tupleElements tells a tuple's elements.
func tupleElements(t api.Tuple) []api.Node {
	l := []api.Node{
		{Deep: 1, Name: tuple, Attrs: []api.Param{attr(id, t.ID)}},
		{Deep: 2, Name: status},
		{Deep: 3, Name: basic, Text: word(t.Open)},
	}
	if t.Contact != "" {
		l = append(l, contactElement(t))
	}
	if t.Note != "" {
		l = append(l, api.Node{Deep: 2, Name: note, Text: t.Note})
	}
	return l
}

// contactElement tells where a tuple can be reached.
func contactElement(t api.Tuple) api.Node {
	n := api.Node{Deep: 2, Name: contact, Text: t.Contact}
	if t.Priority != none {
		n.Attrs = []api.Param{attr(priority, Decimal(t.Priority))}
	}
	return n
}

// word tells what a basic says.
func word(isOpen bool) string {
	if isOpen {
		return open
	}
	return closed
}

// attr tells an attribute.
func attr(name, value string) api.Param {
	return api.Param{Name: name, Value: value, Has: true}
}
