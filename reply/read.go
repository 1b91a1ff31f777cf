package reply

import (
	"roster/addr"
	"roster/api"
	"roster/frame"
	"roster/head"
	"roster/scan"
	"roster/uri"
)

// Read reads a whole request.
func Read(m api.Msg) (api.Request, api.Errno) {
	r, err := Base(m)
	if err != api.OK {
		return api.Request{}, err
	}
	if err := readMore(m, &r); err != api.OK {
		return api.Request{}, err
	}
	return r, api.OK
}

// readMore reads what Base leaves unread.
func readMore(m api.Msg, r *api.Request) api.Errno {
	target, err := uri.Parse(m.Target)
	if err != api.OK {
		return err
	}
	r.Target = target
	if r.FromTag == "" {
		return api.ErrMissing
	}
	if err := readAllowed(m, allowed(r)); err != api.OK {
		return err
	}
	return readLists(m, r)
}

// allowed are the single headers that a request may go without.
func allowed(r *api.Request) []single {
	return []single{
		{"Expires", func(value string) (err api.Errno) {
			r.Expires, err = head.Time(value)
			return err
		}},
		{"Event", func(value string) (err api.Errno) {
			r.Event, err = head.Event(value)
			return err
		}},
		{"Contact", func(value string) (err api.Errno) {
			r.Contact, err = addr.List(value)
			return err
		}},
		{"Content-Type", func(value string) api.Errno {
			// Also one that is none is told: whoever asks for a type holds it against those it takes.
			r.Type, _ = head.Type(value)
			return api.OK
		}},
		{"SIP-If-Match", func(value string) api.Errno {
			if !scan.Token(value) {
				return api.ErrTag
			}
			r.Match = value
			return api.OK
		}},
	}
}

// readAllowed reads headers each of which may stand once, in order.
func readAllowed(m api.Msg, l []single) api.Errno {
	for _, h := range l {
		values := frame.All(m, h.name)
		if len(values) > 1 {
			return api.ErrMany
		}
		for _, value := range values {
			if err := h.read(value); err != api.OK {
				return err
			}
		}
	}
	return api.OK
}

// readLists reads the headers that may stand more than once. How many texts
// they have is asked behind what they say: a wrong route is told first,
// wherever it stands.
func readLists(m api.Msg, r *api.Request) api.Errno {
	r.Routes, r.Accept = texts(m, "Record-Route"), texts(m, "Accept")
	for _, route := range r.Routes {
		if _, err := addr.Parse(route); err != api.OK {
			return err
		}
	}
	if len(r.Routes) > api.MaxList || len(r.Accept) > api.MaxList {
		return api.ErrMany
	}
	return api.OK
}

// texts are the texts between commas of all headers of a name.
func texts(m api.Msg, name string) []string {
	var l []string
	for _, value := range frame.All(m, name) {
		for _, part := range scan.Parts(value, ',') {
			l = append(l, scan.Trim(part))
		}
	}
	return l
}
