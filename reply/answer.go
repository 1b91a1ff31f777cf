package reply

import (
	"roster/api"
	"roster/frame"
	"roster/scan"
)

// The statuses that an answer may have.
const (
	leastStatus = 100
	mostStatus  = 699
)

// Answer writes the answer to a request.
func Answer(m api.Msg, status int, tag string, more []api.Header) (string, api.Errno) {
	r, err := Base(m)
	if err != api.OK {
		return "", err
	}
	if status < leastStatus || status > mostStatus || tag != "" && !scan.Token(tag) {
		return "", api.ErrArg
	}
	ending := ""
	if r.ToTag == "" && tag != "" {
		ending = ";tag=" + tag
	}
	headers := append(repeated(m, ending), more...)
	return frame.Print(api.Msg{Status: status, Reason: Reason(status), Headers: headers})
}

// repeated are the headers of a request that its answer has, too, with an
// ending behind To. Base has asked how often each of them stands.
func repeated(m api.Msg, ending string) []api.Header {
	var l []api.Header
	for _, name := range [...]string{"Via", "From", "To", "Call-ID", "CSeq"} {
		for _, value := range frame.All(m, name) {
			if name == "To" {
				value += ending
			}
			l = append(l, api.Header{Name: name, Value: value})
		}
	}
	return l
}
