package head

import (
	"strings"

	"roster/addr"
	"roster/api"
	"roster/same"
	"roster/scan"
)

// Event reads an event.
func Event(s string) (api.Event, api.Errno) {
	parts := scan.Parts(s, ';')
	name := scan.Trim(parts[0])
	params, err := addr.Fields(parts[1:])
	if err != api.OK || !scan.Token(name) {
		return api.Event{}, api.ErrEvent
	}
	return api.Event{Name: name, Params: params}, api.OK
}

// Print writes an event.
func Print(v api.Event) (string, api.Errno) {
	params, err := addr.Text(v.Params)
	if err != api.OK || !scan.Token(v.Name) {
		return "", api.ErrEvent
	}
	// A copy, even where nothing comes behind it: it would lie in the argument.
	return strings.Clone(v.Name) + params, api.OK
}

// Is tells whether two events are one: the name, and the parameter id.
func Is(a, b api.Event) bool {
	first, has := same.Value(a.Params, "id")
	second, hasToo := same.Value(b.Params, "id")
	return a.Name == b.Name && first == second && has == hasToo
}
