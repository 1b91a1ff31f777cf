package pidf

import (
	"roster/api"
	"roster/same"
	"roster/uri"
	"roster/xml"
)

// Parse reads a document.
func Parse(s string) (api.Doc, api.Errno) {
	l, err := xml.Parse(s)
	if err != api.OK {
		return api.Doc{}, err
	}
	d, ok := readDoc(l)
	if !ok {
		return api.Doc{}, api.ErrPidf
	}
	if err := Check(d); err != api.OK {
		return api.Doc{}, err
	}
	return d, api.OK
}

// readDoc reads elements, and tells whether they are written as a document is.
func readDoc(l []api.Node) (api.Doc, bool) {
	if xml.Local(l[0].Name) != presence {
		return api.Doc{}, false
	}
	whose, _ := xml.Attr(l[0], entity)
	u, err := uri.Parse(whose)
	if err != api.OK {
		return api.Doc{}, false
	}
	// A URI without a user is nobody's: its empty name is found by Check.
	who, _ := same.Who(u)
	d := api.Doc{Entity: who}
	for _, at := range named(l, 0, tuple) {
		t, ok := readTuple(l, at)
		if !ok {
			return api.Doc{}, false
		}
		d.Tuples = append(d.Tuples, t)
	}
	for _, at := range named(l, 0, note) {
		if l[at].Text != "" {
			d.Notes = append(d.Notes, l[at].Text)
		}
	}
	return d, true
}

// readTuple reads the tuple at a place.
func readTuple(l []api.Node, at int) (api.Tuple, bool) {
	isOpen, ok := readStatus(l, at)
	contacts, notes := named(l, at, contact), named(l, at, note)
	if !ok || len(contacts) > 1 || len(notes) > 1 {
		return api.Tuple{}, false
	}
	t := api.Tuple{Open: isOpen, Priority: none}
	t.ID, _ = xml.Attr(l[at], id)
	for _, kid := range contacts {
		t.Contact = l[kid].Text
		t.Priority, ok = readPriority(l[kid])
	}
	for _, kid := range notes {
		t.Note = l[kid].Text
	}
	return t, ok
}

// readStatus tells whether the tuple at a place is open, and whether it says so
// just once.
func readStatus(l []api.Node, at int) (bool, bool) {
	all := named(l, at, status)
	if len(all) != 1 {
		return false, false
	}
	all = named(l, all[0], basic)
	if len(all) != 1 {
		return false, false
	}
	said := l[all[0]].Text
	return said == open, said == open || said == closed
}

// readPriority reads the priority of a contact, if one is told.
func readPriority(n api.Node) (int, bool) {
	s, told := xml.Attr(n, priority)
	if !told {
		return none, true
	}
	return Thousandths(s)
}

// named tells the places of those elements of the one at a place that have a
// name, whatever space it is told to be of.
func named(l []api.Node, at int, name string) []int {
	var places []int
	for _, kid := range xml.Kids(l, at) {
		if xml.Local(l[kid].Name) == name {
			places = append(places, kid)
		}
	}
	return places
}
