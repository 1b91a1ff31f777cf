package uri

import (
	"roster/api"
	"roster/scan"
)

// Print writes a URI.
func Print(u api.URI) (string, api.Errno) {
	if err := Check(u); err != api.OK {
		return "", err
	}
	s := u.Scheme + ":"
	if u.User != "" {
		s += scan.Escape(u.User, userSigns) + "@"
	}
	s += u.Host
	if u.Port != 0 {
		s += ":" + scan.Digits(u.Port)
	}
	s += written(u.Params, ";", ";", paramSigns)
	s += written(u.Headers, "?", "&", headerSigns)
	return s, api.OK
}

// written writes a list: one sign ahead of its first parameter, another ahead
// of each other one.
func written(l []api.Param, first, next, signs string) string {
	s := ""
	ahead := first
	for _, p := range l {
		s += ahead + scan.Escape(p.Name, signs)
		if p.Has {
			s += "=" + scan.Escape(p.Value, signs)
		}
		ahead = next
	}
	return s
}
