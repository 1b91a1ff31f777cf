package winfo

import (
	"roster/api"
	"roster/scan"
	"roster/xml"
)

// space is the name that tells these documents from all others.
const space = "urn:ietf:params:xml:ns:watcherinfo"

// The names of attributes that say what a document says; what the others say
// is the same in all documents.
const (
	version  = "version"
	resource = "resource"
	id       = "id"
	status   = "status"
	event    = "event"
)

// scheme stands ahead of names, and mark ahead of an ID: in XML, an id does not
// begin with a digit.
const (
	scheme = "sip:"
	mark   = "w"
)

// Print writes a document.
func Print(d api.Info) (string, api.Errno) {
	if err := Check(d); err != api.OK {
		return "", err
	}
	return xml.Print(elements(d))
}

// elements tells a document's elements.
func elements(d api.Info) []api.Node {
	l := []api.Node{
		{Deep: 0, Name: "watcherinfo", Attrs: attrs("xmlns", space, version, scan.Digits(d.Version), "state", "full")},
		{Deep: 1, Name: "watcher-list", Attrs: attrs(resource, scheme+d.Resource, "package", "presence")},
	}
	for _, w := range d.Watchers {
		l = append(l, element(w))
	}
	return l
}

// element tells a watcher's element.
func element(w api.Watcher) api.Node {
	return api.Node{
		Deep:  2,
		Name:  "watcher",
		Attrs: attrs(id, mark+scan.Digits(w.ID), status, w.Status, event, w.Event),
		Text:  scheme + w.URI,
	}
}

// attrs makes attributes of names and values, by turns.
func attrs(words ...string) []api.Param {
	l := make([]api.Param, len(words)/2)
	for i := range l {
		l[i] = api.Param{Name: words[2*i], Value: words[2*i+1], Has: true}
	}
	return l
}
