package winfo

import (
	"strings"

	"roster/api"
	"roster/scan"
	"roster/xml"
)

// Parse reads a document.
func Parse(s string) (api.Info, api.Errno) {
	l, err := xml.Parse(s)
	if err != api.OK {
		return api.Info{}, err
	}
	d := read(l)
	if !saysAll(d, l) {
		return api.Info{}, api.ErrInfo
	}
	return d, api.OK
}

// saysAll tells whether elements are just those of a document, which is short
// enough to be read again. They are held against each other as they are
// written: each list of elements is written in a way of its own.
func saysAll(d api.Info, l []api.Node) bool {
	wanted, err := Print(d)
	if err != api.OK || len(wanted) > api.MaxBytes {
		return false
	}
	given, err := xml.Print(l)
	return err == api.OK && given == wanted
}

// read reads from elements what a document says, as if they were one's. It asks
// for nothing: where they are not as they have to be, they are not written as
// what was read.
func read(l []api.Node) api.Info {
	var d api.Info
	for i, n := range l {
		switch i {
		case 0:
			d.Version = number(said(n, version), api.MaxCSeq)
		case 1:
			d.Resource = strings.TrimPrefix(said(n, resource), scheme)
		default:
			d.Watchers = append(d.Watchers, watcher(n))
		}
	}
	return d
}

// watcher reads a watcher from its element.
func watcher(n api.Node) api.Watcher {
	return api.Watcher{
		ID:     number(strings.TrimPrefix(said(n, id), mark), api.MaxTick),
		URI:    strings.TrimPrefix(n.Text, scheme),
		Status: said(n, status),
		Event:  said(n, event),
	}
}

// said tells an attribute; empty, if there is none.
func said(n api.Node, name string) string {
	value, _ := xml.Attr(n, name)
	return value
}

// number reads a number; nought, if there is none.
func number(s string, most int) int {
	n, _ := scan.Number(s, most)
	return n
}
