package dialog

import (
	"roster/addr"
	"roster/api"
	"roster/frame"
	"roster/head"
	"roster/uri"
	"roster/via"
)

const (
	method = "NOTIFY"
	// forwards is how many hops a request may go, so that it does not go round
	// for ever.
	forwards = "70"
)

// Notify writes the next request of a dialog.
func Notify(d api.Dialog, host, branch string, more []api.Header, body string) (string, api.Dialog, api.Errno) {
	told := copyDialog(d)
	m, err := request(d, host, branch)
	if err != api.OK {
		return "", told, err
	}
	m.Headers = append(m.Headers, more...)
	m.Body = body
	s, err := frame.Print(m)
	if err != api.OK {
		return "", told, err
	}
	told.LastOut++
	return s, told, api.OK
}

// request is the next request of a dialog, with what each one has.
func request(d api.Dialog, host, branch string) (api.Msg, api.Errno) {
	if d.LastOut < 0 || d.LastOut >= api.MaxCSeq {
		return api.Msg{}, api.ErrSeq
	}
	target, err := uri.Print(d.Target)
	if err != api.OK {
		return api.Msg{}, err
	}
	hop, err := via.Print(api.Via{Host: host, Params: []api.Param{{Name: "branch", Value: branch, Has: true}}})
	if err != api.OK {
		return api.Msg{}, err
	}
	// Here the agent asks: its own address is From, though it was To when the
	// dialog began.
	from, err := addr.Print(d.Local)
	if err != api.OK {
		return api.Msg{}, err
	}
	to, err := addr.Print(d.Remote)
	if err != api.OK {
		return api.Msg{}, err
	}
	// LastOut was looked at above: of the number behind it there is no error.
	seq, _ := head.Cseq(d.LastOut+1, method)
	l := []api.Header{{Name: "Via", Value: hop}, {Name: "Max-Forwards", Value: forwards}}
	l = append(l, routes(d)...)
	l = append(l, []api.Header{
		{Name: "From", Value: from},
		{Name: "To", Value: to},
		{Name: "Call-ID", Value: d.CallID},
		{Name: "CSeq", Value: seq},
		{Name: "Contact", Value: "<sip:" + host + ">"},
	}...)
	return api.Msg{Method: method, Target: target, Headers: l}, api.OK
}

// routes are the headers by which a request goes the way that a dialog has.
func routes(d api.Dialog) []api.Header {
	var l []api.Header
	for _, route := range d.Routes {
		l = append(l, api.Header{Name: "Route", Value: route})
	}
	return l
}
