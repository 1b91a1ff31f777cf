package uri_test

import (
	"fmt"
	"regexp"
	"strings"
	"testing"

	"roster/api"
	"roster/uri"
)

func TestP3_1Host(t *testing.T) {
	for s, want := range map[string]bool{
		"a": true, "example.org": true, "a-b.c--d": true, "1.2.3.4": true, "0": true, "999.9": true, "a.b.c.d.e": true,
		"": false, ".": false, ".a": false, "a.": false, "a..b": false, "-": false, "-a": false, "a-": false, "a-.b": false, "a.-b": false, "a.b-": false, "a.-.b": false,
		"A": false, "a.B": false, "a_b": false, "a b": false, " a": false, "a:1": false, "a%20": false, "é": false, "a\x00": false,
		"[::]": true, "[::1]": true, "[1:2:3]": true, "[fe80::1.2.3.4]": true, "[:::::]": true, "[.::]": true, "[abcdef:0:9]": true,
		"[": false, "[]": false, "[:]": false, "[1]": false, "[1:2]": false, "[12]": false, "[a.b:c]": false, "[ab:]": false,
		"[::1": false, "::1]": false, "::1": false, "[::g]": false, "[::A]": false, "[::-]": false, "[::1]]": false, "[[::1]": false, "[::1] ": false, "[::1].a": false, "a.[::1]": false, "[::\x00]": false, "[::%1]": false,
	} {
		if got := uri.Host(s); got != want {
			t.Errorf("Host(%q) = %v", s, got)
		}
	}
}

func TestP3_1HostLength(t *testing.T) {
	for n, want := range map[int]bool{1: true, 63: true, 64: true, 65: false, 4096: false} {
		if got := uri.Host(long(n)); got != want {
			t.Errorf("Host of %d bytes = %v", n, got)
		}
	}
	for n, want := range map[int]bool{31: true, 32: false} {
		s := strings.Repeat("a.", n) + "bb"
		if got := uri.Host(s); got != want {
			t.Errorf("Host of %d bytes with points = %v", len(s), got)
		}
	}
	for n, want := range map[int]bool{60: true, 61: false} {
		s := "[::" + strings.Repeat("0", n) + "]"
		if got := uri.Host(s); got != want {
			t.Errorf("Host of %d bytes in brackets = %v", len(s), got)
		}
	}
}

// hosts says P3.1 as a pattern.
var hosts = regexp.MustCompile(`^(\[[0-9a-f.]*:[0-9a-f.]*:[0-9a-f.:]*\]|[0-9a-z]([0-9a-z-]*[0-9a-z])?(\.[0-9a-z]([0-9a-z-]*[0-9a-z])?)*)$`)

func TestP3_1HostAll(t *testing.T) {
	for _, s := range texts("ag-.[:]B", 5) {
		if got := uri.Host(s); got != hosts.MatchString(s) {
			t.Fatalf("Host(%q) = %v", s, got)
		}
	}
	for _, c := range every() {
		for _, s := range []string{c, "x" + c + "y", "[:" + c + ":]", "[::1" + c} {
			if got := uri.Host(s); got != hosts.MatchString(s) {
				t.Errorf("Host(%q) = %v", s, got)
			}
		}
	}
}

func TestP3_4Where(t *testing.T) {
	for _, x := range []struct {
		s    string
		host string
		port int
		err  api.Errno
	}{
		{"a", "a", 0, api.OK},
		{"Example.ORG", "example.org", 0, api.OK},
		{"a:1", "a", 1, api.OK},
		{"A.b:5060", "a.b", 5060, api.OK},
		{"a:65535", "a", 65535, api.OK},
		{"a:65536", "", 0, api.ErrPort},
		{"a:0", "", 0, api.ErrPort},
		{"a:000", "", 0, api.ErrPort},
		{"a:007", "a", 7, api.OK},
		{"a:" + strings.Repeat("0", 100) + "5", "a", 5, api.OK},
		{"a:", "", 0, api.ErrPort},
		{"a:1:2", "", 0, api.ErrPort},
		{"a::1", "", 0, api.ErrPort},
		{"a:-1", "", 0, api.ErrPort},
		{"a:+1", "", 0, api.ErrPort},
		{"a: 1", "", 0, api.ErrPort},
		{"a:1 ", "", 0, api.ErrPort},
		{"a:x", "", 0, api.ErrPort},
		{"a:1]", "", 0, api.ErrPort},
		{"a:18446744073709551617", "", 0, api.ErrPort},
		{"[::1]", "[::1]", 0, api.OK},
		{"[::1]:5", "[::1]", 5, api.OK},
		{"[FE80::A]:5", "[fe80::a]", 5, api.OK},
		{"[::1]:", "", 0, api.ErrPort},
		{"[::1]:0", "", 0, api.ErrPort},
		{"[::1]:[5", "", 0, api.ErrPort},
		{"[::1]5", "", 0, api.ErrHost},
		{"[::1]x:5", "", 0, api.ErrHost},
		{"[::1", "", 0, api.ErrHost},
		{"[::1:5", "", 0, api.ErrHost},
		{"[", "", 0, api.ErrHost},
		{"[:5", "", 0, api.ErrHost},
		{"a[:5", "", 0, api.ErrHost},
		{"a]:5", "", 0, api.ErrHost},
		{"a[:]:5", "", 0, api.ErrHost},
		{"[[::1]:5", "", 0, api.ErrHost},
		{"::1", "", 0, api.ErrHost},
		{"", "", 0, api.ErrHost},
		{":", "", 0, api.ErrHost},
		{":5060", "", 0, api.ErrHost},
		{"-a:5", "", 0, api.ErrHost},
		{"-a:x", "", 0, api.ErrHost},
		{"a b:5", "", 0, api.ErrHost},
		{"É:5", "", 0, api.ErrHost},
		{long(64) + ":5", long(64), 5, api.OK},
		{long(65) + ":5", "", 0, api.ErrHost},
	} {
		host, port, err := uri.Where(x.s)
		if host != x.host || port != x.port || err != x.err {
			t.Errorf("Where(%q) = %q, %d, %d", x.s, host, port, err)
		}
	}
}

func TestP3_4WherePorts(t *testing.T) {
	for port := 1; port <= 65535; port += 13 {
		host, got, err := uri.Where(fmt.Sprintf("[::1]:%d", port))
		if host != "[::1]" || got != port || err != api.OK {
			t.Fatalf("port %d: %q, %d, %d", port, host, got, err)
		}
	}
}

// wheres says P3.4 as a pattern: what is a host, and behind a colon what may be a port.
var wheres = regexp.MustCompile(`^((?:[^:\[]|\[[^\]]*\])*)(?::(.*))?$`)

func TestP3_4WhereAll(t *testing.T) {
	for _, s := range texts("aB:[].0", 6) {
		wantHost, wantPort, wantErr := "", 0, api.ErrHost
		if m := wheres.FindStringSubmatch(s); m != nil && hosts.MatchString(strings.ToLower(m[1])) {
			wantErr = api.OK
			if len(m[0]) > len(m[1]) {
				// The only digit at hand is 0.
				wantErr = api.ErrPort
			} else {
				wantHost = strings.ToLower(m[1])
			}
		}
		host, port, err := uri.Where(s)
		if host != wantHost || port != wantPort || err != wantErr {
			t.Fatalf("Where(%q) = %q, %d, %d", s, host, port, err)
		}
	}
}
