package subs

import (
	"strings"

	"roster/api"
)

// copySub copies a subscription, so that what is kept shares no memory with
// what comes in or goes out.
func copySub(s api.Sub) api.Sub {
	s.Who = strings.Clone(s.Who)
	s.Watcher = strings.Clone(s.Watcher)
	s.Event = api.Event{Name: strings.Clone(s.Event.Name), Params: copyParams(s.Event.Params)}
	s.Reason = strings.Clone(s.Reason)
	s.Dialog = copyDialog(s.Dialog)
	return s
}

// copyDialog copies a dialog, its lists and their texts, too.
func copyDialog(d api.Dialog) api.Dialog {
	d.CallID = strings.Clone(d.CallID)
	d.Local = copyAddr(d.Local)
	d.Remote = copyAddr(d.Remote)
	d.Target = copyURI(d.Target)
	d.Routes = copyTexts(d.Routes)
	return d
}

func copyAddr(a api.Addr) api.Addr {
	a.Display = strings.Clone(a.Display)
	a.URI = copyURI(a.URI)
	a.Params = copyParams(a.Params)
	return a
}

func copyURI(u api.URI) api.URI {
	u.Scheme = strings.Clone(u.Scheme)
	u.User = strings.Clone(u.User)
	u.Host = strings.Clone(u.Host)
	u.Params = copyParams(u.Params)
	u.Headers = copyParams(u.Headers)
	return u
}

func copyParams(l []api.Param) []api.Param {
	var c []api.Param
	for _, p := range l {
		c = append(c, api.Param{Name: strings.Clone(p.Name), Value: strings.Clone(p.Value), Has: p.Has})
	}
	return c
}

func copyTexts(l []string) []string {
	var c []string
	for _, s := range l {
		c = append(c, strings.Clone(s))
	}
	return c
}
