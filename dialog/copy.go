package dialog

import (
	"strings"

	"roster/api"
)

// copyDialog copies a dialog, its lists and their texts, too, so that an answer
// shares no memory with what was handed in.
func copyDialog(d api.Dialog) api.Dialog {
	d.CallID = strings.Clone(d.CallID)
	d.Local = copyAddr(d.Local)
	d.Remote = copyAddr(d.Remote)
	d.Target = copyURI(d.Target)
	d.Routes = copyTexts(d.Routes)
	return d
}

func copyAddr(a api.Addr) api.Addr {
	a.Display = strings.Clone(a.Display)
	a.URI = copyURI(a.URI)
	a.Params = copyParams(a.Params)
	return a
}

func copyURI(u api.URI) api.URI {
	u.Scheme = strings.Clone(u.Scheme)
	u.User = strings.Clone(u.User)
	u.Host = strings.Clone(u.Host)
	u.Params = copyParams(u.Params)
	u.Headers = copyParams(u.Headers)
	return u
}

func copyParams(l []api.Param) []api.Param {
	var c []api.Param
	for _, p := range l {
		c = append(c, api.Param{Name: strings.Clone(p.Name), Value: strings.Clone(p.Value), Has: p.Has})
	}
	return c
}

func copyTexts(l []string) []string {
	var c []string
	for _, s := range l {
		c = append(c, strings.Clone(s))
	}
	return c
}
