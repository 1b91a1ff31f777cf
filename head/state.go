package head

import (
	"strings"

	"roster/api"
	"roster/same"
	"roster/scan"
)

// untold stands for seconds that a state does not tell.
const untold = -1

// State reads a Subscription-State.
func State(s string) (api.State, api.Errno) {
	v, err := Event(s)
	if err != api.OK {
		return api.State{}, api.ErrState
	}
	reason, _ := same.Value(v.Params, "reason")
	expires, err := lasting(v.Params)
	if err != api.OK || !mayGive(reason) {
		return api.State{}, api.ErrState
	}
	return api.State{Name: scan.Lower(v.Name), Expires: expires, Reason: reason}, api.OK
}

// lasting tells the seconds that a state's parameters tell.
func lasting(l []api.Param) (int, api.Errno) {
	value, has := same.Value(l, "expires")
	if !has {
		return untold, api.OK
	}
	return Time(value)
}

// mayGive tells whether a text may be a state's reason; empty: it gives none.
func mayGive(reason string) bool { return reason == "" || scan.Token(reason) }

// Show writes a Subscription-State.
func Show(v api.State) (string, api.Errno) {
	if !mayShow(v) {
		return "", api.ErrState
	}
	// A copy, even where nothing comes behind it: it would lie in the argument.
	s := strings.Clone(v.Name)
	if v.Reason != "" {
		s += ";reason=" + v.Reason
	}
	if v.Expires != untold {
		s += ";expires=" + scan.Digits(v.Expires)
	}
	return s, api.OK
}

// mayShow tells whether a state can be written so that it is read as it was.
func mayShow(v api.State) bool {
	small := scan.Token(v.Name) && v.Name == scan.Lower(v.Name)
	return small && v.Expires >= untold && v.Expires <= api.MaxSeconds && mayGive(v.Reason)
}
