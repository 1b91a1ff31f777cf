package pub

import (
	"strings"

	"roster/api"
)

// copyPub copies a publication, so that what is kept shares no memory with what
// goes out.
func copyPub(p api.Pub) api.Pub {
	p.Who = strings.Clone(p.Who)
	p.Tag = strings.Clone(p.Tag)
	p.Doc = copyDoc(p.Doc)
	return p
}

// copyDoc copies a document, its lists and their texts, too.
func copyDoc(d api.Doc) api.Doc {
	c := api.Doc{Entity: strings.Clone(d.Entity)}
	for _, t := range d.Tuples {
		c.Tuples = append(c.Tuples, copyTuple(t))
	}
	for _, s := range d.Notes {
		c.Notes = append(c.Notes, strings.Clone(s))
	}
	return c
}

func copyTuple(t api.Tuple) api.Tuple {
	t.ID = strings.Clone(t.ID)
	t.Contact = strings.Clone(t.Contact)
	t.Note = strings.Clone(t.Note)
	return t
}
