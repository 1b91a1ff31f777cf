package reply

import (
	"strings"

	"roster/addr"
	"roster/api"
	"roster/frame"
	"roster/head"
	"roster/via"
)

// untold is how long something is to last, if nothing is told of that.
const untold = -1

// single is a header that is to stand once, and what reads its value.
type single struct {
	name string
	read func(value string) api.Errno
}

// Base reads what is needed to answer a request at all.
func Base(m api.Msg) (api.Request, api.Errno) {
	if m.Method == "" {
		return api.Request{}, api.ErrArg
	}
	r := api.Request{Expires: untold}
	if err := readHop(m, &r); err != api.OK {
		return api.Request{}, err
	}
	if err := readNeeded(m, needed(m.Method, &r)); err != api.OK {
		return api.Request{}, err
	}
	r.FromTag, r.ToTag = addr.Tag(r.From), addr.Tag(r.To)
	// Copies: an answer does not lie in what was handed in.
	r.Method, r.Body = strings.Clone(m.Method), strings.Clone(m.Body)
	return r, api.OK
}

// readHop reads from which hop a request came, and by which branch.
func readHop(m api.Msg, r *api.Request) api.Errno {
	hops, err := via.List(m)
	if err != api.OK {
		return err
	}
	branch, ok := via.Branch(hops[0])
	if !ok {
		return api.ErrVia
	}
	r.Branch, r.SentBy = branch, via.By(hops[0])
	return api.OK
}

// needed are the single headers that no request goes without.
func needed(method string, r *api.Request) []single {
	return []single{
		{"From", func(value string) (err api.Errno) {
			r.From, err = addr.Parse(value)
			return err
		}},
		{"To", func(value string) (err api.Errno) {
			r.To, err = addr.Parse(value)
			return err
		}},
		{"Call-ID", func(value string) api.Errno {
			if !head.Call(value) {
				return api.ErrMissing
			}
			r.CallID = value
			return api.OK
		}},
		{"CSeq", func(value string) api.Errno {
			n, of, err := head.Seq(value)
			if err != api.OK || of != method {
				return api.ErrSeq
			}
			r.Seq = n
			return api.OK
		}},
	}
}

// readNeeded reads headers each of which must stand just once, in order.
func readNeeded(m api.Msg, l []single) api.Errno {
	for _, h := range l {
		value, ok := frame.One(m, h.name)
		if !ok {
			return api.ErrMissing
		}
		if err := h.read(value); err != api.OK {
			return err
		}
	}
	return api.OK
}
