package uri

import (
	"strings"

	"roster/api"
	"roster/scan"
)

// Parse reads a URI.
func Parse(s string) (api.URI, api.Errno) {
	ahead, rest, found := strings.Cut(s, ":")
	scheme := scan.Lower(ahead)
	if !found || !Scheme(scheme) {
		return api.URI{}, api.ErrScheme
	}
	user, rest, err := cutUser(rest)
	if err != api.OK {
		return api.URI{}, err
	}
	u, err := readRest(rest)
	if err != api.OK {
		return api.URI{}, err
	}
	u.Scheme, u.User = scheme, user
	if err := Check(u); err != api.OK {
		return api.URI{}, err
	}
	return u, api.OK
}

// cutUser reads the user, if there is one, and tells what stands behind it.
func cutUser(s string) (string, string, api.Errno) {
	ahead, rest, found := strings.Cut(s, "@")
	if !found {
		return "", s, api.OK
	}
	user, ok := meaning(ahead, userSigns)
	// An empty User stands for none, so none may be written ahead of a @.
	if !ok || user == "" || len(user) > api.MaxName {
		return "", "", api.ErrUser
	}
	return user, rest, api.OK
}

// readRest reads what stands behind the scheme and the user.
func readRest(s string) (api.URI, api.Errno) {
	front, back, asked := strings.Cut(s, "?")
	parts := strings.Split(front, ";")
	host, port, err := Where(parts[0])
	if err != api.OK {
		return api.URI{}, err
	}
	params, ok := fields(parts[1:], paramSigns)
	if !ok {
		return api.URI{}, api.ErrParam
	}
	var headers []api.Param
	if asked {
		headers, ok = fields(strings.Split(back, "&"), headerSigns)
	}
	if !ok {
		return api.URI{}, api.ErrParam
	}
	return api.URI{Host: host, Port: port, Params: params, Headers: headers}, api.OK
}

// fields reads parameters, and tells whether they may be written with some signs.
func fields(parts []string, signs string) ([]api.Param, bool) {
	var l []api.Param
	for _, part := range parts {
		ahead, behind, has := strings.Cut(part, "=")
		name, ok := meaning(ahead, signs)
		if !ok {
			return nil, false
		}
		value, ok := meaning(behind, signs)
		if !ok {
			return nil, false
		}
		l = append(l, api.Param{Name: name, Value: value, Has: has})
	}
	return l, true
}

// meaning tells what a text stands for, and whether it may be written with some signs.
func meaning(s, signs string) (string, bool) {
	for i := range len(s) {
		c := s[i]
		if c != '%' && scan.Class(c)&scan.Plain == 0 && strings.IndexByte(signs, c) < 0 {
			return "", false
		}
	}
	text, err := scan.Unescape(s)
	return text, err == api.OK
}
