package addr

import (
	"strings"

	"roster/api"
	"roster/same"
	"roster/scan"
	"roster/uri"
)

// Fields reads parameters: each a part of a text.
func Fields(parts []string) ([]api.Param, api.Errno) {
	if len(parts) > api.MaxParams {
		return nil, api.ErrMany
	}
	var l []api.Param
	for _, part := range parts {
		p, ok := field(part)
		if !ok || !mayStand(p, l) {
			return nil, api.ErrParam
		}
		l = append(l, p)
	}
	return l, api.OK
}

// field reads a parameter, and tells whether its Value is written as it must be.
func field(part string) (api.Param, bool) {
	ahead, behind, has := strings.Cut(part, "=")
	p := api.Param{Name: scan.Trim(ahead), Value: scan.Trim(behind), Has: has}
	if strings.HasPrefix(p.Value, `"`) {
		text, err := scan.Unquote(p.Value)
		p.Value = text
		return p, err == api.OK
	}
	return p, !has || word(p.Value)
}

// word tells whether a text stands for itself as a Value. Of hosts only those
// in brackets are no tokens.
func word(s string) bool {
	return scan.Token(s) || uri.Host(scan.Lower(s))
}

// mayStand tells whether a parameter may stand behind others.
func mayStand(p api.Param, ahead []api.Param) bool {
	if !scan.Token(p.Name) || !quotable(p.Value) || !p.Has && p.Value != "" {
		return false
	}
	_, twice := same.Value(ahead, p.Name)
	return !twice
}

// Text writes parameters, each behind a semicolon.
func Text(l []api.Param) (string, api.Errno) {
	if len(l) > api.MaxParams {
		return "", api.ErrMany
	}
	s := ""
	for i, p := range l {
		if !mayStand(p, l[:i]) {
			return "", api.ErrParam
		}
		s += ";" + p.Name
		if p.Has {
			s += "=" + shown(p.Value)
		}
	}
	return s, api.OK
}

// shown writes a Value: quoted, if it would not be read back as it is.
func shown(value string) string {
	if word(value) {
		return value
	}
	return quoted(value)
}
