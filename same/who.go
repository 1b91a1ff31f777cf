package same

import (
	"strings"

	"roster/api"
	"roster/uri"
)

// nameScheme is what a name is written and read behind: all schemes share one
// name, so one of them stands for all.
const nameScheme = "sip"

// Who tells whose a URI is: the name under which an agent knows it.
func Who(u api.URI) (string, api.Errno) {
	if err := uri.Check(u); err != api.OK {
		return "", err
	}
	if u.User == "" {
		return "", api.ErrUser
	}
	s, err := uri.Print(api.URI{Scheme: nameScheme, User: u.User, Host: u.Host})
	return strings.TrimPrefix(s, nameScheme+":"), err
}

// Host tells the host of such a name.
func Host(who string) (string, api.Errno) {
	u, err := uri.Parse(nameScheme + ":" + who)
	if err != api.OK {
		return "", err
	}
	// Somebody has one name: other ways to write it, or more beside it, are none.
	if name, err := Who(u); err != api.OK || name != who {
		return "", api.ErrUser
	}
	return u.Host, api.OK
}
