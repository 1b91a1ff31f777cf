package via_test

import (
	"math"
	"reflect"
	"slices"
	"strings"
	"testing"
	"unsafe"

	"roster/addr"
	"roster/api"
	"roster/scan"
	"roster/uri"
	"roster/via"
)

// long is a text of n bytes.
func long(n int) string { return strings.Repeat("x", n) }

// with is a parameter with a Value.
func with(name, value string) api.Param { return api.Param{Name: name, Value: value, Has: true} }

// bare is a parameter without one.
func bare(name string) api.Param { return api.Param{Name: name} }

// hop is a hop.
func hop(host string, port int, l ...api.Param) api.Via {
	return api.Via{Host: host, Port: port, Params: l}
}

// counted are n parameters that may stand together.
func counted(n int) []api.Param {
	var l []api.Param
	for i := range n {
		l = append(l, bare("p"+scan.Digits(i)))
	}
	return l
}

// alike tells whether two hops are one; nil and empty lists are alike.
func alike(a, b api.Via) bool {
	return a.Host == b.Host && a.Port == b.Port && slices.Equal(a.Params, b.Params)
}

// empty tells whether a hop is the zero value.
func empty(v api.Via) bool { return reflect.DeepEqual(v, api.Via{}) }

// texts are all texts of up to so many of some pieces.
func texts(most int, pieces ...string) []string {
	all := []string{""}
	from := 0
	for range most {
		to := len(all)
		for _, s := range all[from:to] {
			for _, p := range pieces {
				all = append(all, s+p)
			}
		}
		from = to
	}
	return all
}

// apart tells whether no byte of two texts lies in one place.
func apart(a, b string) bool {
	if a == "" || b == "" {
		return true
	}
	x, y := uintptr(unsafe.Pointer(unsafe.StringData(a))), uintptr(unsafe.Pointer(unsafe.StringData(b)))
	return x+uintptr(len(a)) <= y || y+uintptr(len(b)) <= x
}

// wordsOf are all texts of a hop.
func wordsOf(v api.Via) []string {
	l := []string{v.Host}
	for _, p := range v.Params {
		l = append(l, p.Name, p.Value)
	}
	return l
}

func TestP7_1Check(t *testing.T) {
	wrong := with("", "")
	for _, x := range []struct {
		v   api.Via
		err api.Errno
	}{
		{hop("a", 0), api.OK},
		{api.Via{Host: "a.b", Port: 1, Params: []api.Param{}}, api.OK},
		{hop("[::1]", 65535, with("branch", "z9hG4bK1"), bare("rport")), api.OK},
		{hop(long(64), 5060, counted(16)...), api.OK},
		{api.Via{}, api.ErrHost},
		{hop(long(65), 0), api.ErrHost},
		{hop("A", 0), api.ErrHost},
		{hop("-a", 0), api.ErrHost},
		{hop("a..b", 0), api.ErrHost},
		{hop("a b", 0), api.ErrHost},
		{hop(" a", 0), api.ErrHost},
		{hop("a:1", 0), api.ErrHost},
		{hop("::1", 0), api.ErrHost},
		{hop("é", 0), api.ErrHost},
		{hop("a", -1), api.ErrPort},
		{hop("a", 65536), api.ErrPort},
		{hop("a", math.MaxInt), api.ErrPort},
		{hop("a", math.MinInt), api.ErrPort},
		{hop("a", 1<<32), api.ErrPort},
		{hop("a", 0, wrong), api.ErrParam},
		{hop("a", 0, bare("x"), bare("X")), api.ErrParam},
		{hop("a", 0, with("x", "a\nb")), api.ErrParam},
		{hop("a", 0, with("x", long(65))), api.ErrParam},
		{hop("a", 0, api.Param{Name: "x", Value: "1"}), api.ErrParam},
		{hop("a", 0, counted(17)...), api.ErrMany},
		{hop("a", 0, append(counted(16), wrong)...), api.ErrMany},
		// The first error is told.
		{hop("", 65536, wrong), api.ErrHost},
		{hop("A", -1, counted(17)...), api.ErrHost},
		{hop("a", -1, wrong), api.ErrPort},
		{hop("a", 65536, counted(17)...), api.ErrPort},
	} {
		if err := via.Check(x.v); err != x.err {
			t.Errorf("Check(%+v) = %d, not %d", x.v, err, x.err)
		}
		s, err := via.Print(x.v)
		if err != x.err || (err != api.OK) != (s == "") {
			t.Errorf("Print(%+v) = %q, %d, not %d", x.v, s, err, x.err)
		}
	}
}

func TestP7_1CheckPorts(t *testing.T) {
	for port := -10; port < 65600; port++ {
		want := api.OK
		if port < 0 || port > 65535 {
			want = api.ErrPort
		}
		if err := via.Check(hop("a", port)); err != want {
			t.Errorf("the port %d: %d", port, err)
		}
	}
}

func TestP7_1CheckBytes(t *testing.T) {
	for i := range 256 {
		c := string([]byte{byte(i)})
		for _, host := range []string{c, "a" + c, c + "a", "a" + c + "a", "[::" + c + "]"} {
			if err := via.Check(hop(host, 0)); (err == api.OK) != uri.Host(host) || err != api.OK && err != api.ErrHost {
				t.Errorf("the host %q: %d", host, err)
			}
		}
		for _, l := range [][]api.Param{{bare(c)}, {bare("a" + c)}, {with("x", c)}, {with("x", "a"+c), bare("y")}} {
			_, want := addr.Text(l)
			if err := via.Check(hop("a", 0, l...)); err != want {
				t.Errorf("the parameters %+v: %d, not %d", l, err, want)
			}
		}
	}
}

func TestP7_1Print(t *testing.T) {
	for _, x := range []struct {
		v    api.Via
		want string
	}{
		{hop("a", 0), "SIP/2.0/UDP a"},
		{hop("a.b", 5060), "SIP/2.0/UDP a.b:5060"},
		{hop("a", 1), "SIP/2.0/UDP a:1"},
		{hop("a", 65535, bare("rport")), "SIP/2.0/UDP a:65535;rport"},
		{hop("[::1]", 5070, with("branch", "z9hG4bK1")), "SIP/2.0/UDP [::1]:5070;branch=z9hG4bK1"},
		{hop("1.2.3.4", 0, with("Branch", "aB"), bare("x"), with("received", "[::A]"), with("y", ""), with("z", `a"b`)),
			`SIP/2.0/UDP 1.2.3.4;Branch=aB;x;received=[::A];y="";z="a\"b"`},
	} {
		if got, err := via.Print(x.v); got != x.want || err != api.OK {
			t.Errorf("Print(%+v) = %q, %d", x.v, got, err)
		}
	}
}

func TestP7_4Branch(t *testing.T) {
	for _, x := range []struct {
		l    []api.Param
		want string
	}{
		{nil, ""},
		{[]api.Param{bare("rport"), with("branches", "z9hG4bK1"), with("branc", "z9hG4bK1")}, ""},
		{[]api.Param{bare("branch")}, ""},
		{[]api.Param{with("branch", "")}, ""},
		{[]api.Param{with("branch", "1")}, ""},
		{[]api.Param{with("branch", "z9hG4b")}, ""},
		{[]api.Param{with("branch", "z9hG4bk1")}, ""},
		{[]api.Param{with("branch", "Z9HG4BK1")}, ""},
		{[]api.Param{with("branch", "z9hG4bK")}, ""},
		{[]api.Param{with("branch", " z9hG4bK1")}, ""},
		{[]api.Param{with("branch", "1z9hG4bK1")}, ""},
		{[]api.Param{with("branch", "z9hG4bK1")}, "z9hG4bK1"},
		{[]api.Param{with("branch", "z9hG4bKz9hG4bK")}, "z9hG4bKz9hG4bK"},
		{[]api.Param{with("branch", "z9hG4bK ")}, "z9hG4bK "},
		{[]api.Param{bare("rport"), with("BraNCH", "z9hG4bKaB"), bare("x")}, "z9hG4bKaB"},
		// The first of that name counts alone.
		{[]api.Param{with("branch", "z9hG4bK1"), with("branch", "z9hG4bK2")}, "z9hG4bK1"},
		{[]api.Param{bare("branch"), with("branch", "z9hG4bK2")}, ""},
		// Of what may not be, too, a branch is told.
		{append(counted(17), with("branch", "z9hG4bK\n")), "z9hG4bK\n"},
		{[]api.Param{with("branch", "z9hG4bK"+long(100))}, "z9hG4bK" + long(100)},
	} {
		got, ok := via.Branch(api.Via{Params: x.l})
		if got != x.want || ok != (x.want != "") {
			t.Errorf("Branch of %+v = %q, %t", x.l, got, ok)
		}
	}
}

func TestP7_4By(t *testing.T) {
	for _, x := range []struct {
		v    api.Via
		want string
	}{
		{hop("a.b", 0), "a.b:5060"},
		{hop("a.b", 5060), "a.b:5060"},
		{hop("a.b", 1), "a.b:1"},
		{hop("[::1]", 65535, with("branch", "z9hG4bK1")), "[::1]:65535"},
		{hop("", 0), ":5060"},
		{hop("A b", 65536), "A b:65536"},
		{hop("a", -1), "a:"},
		{hop("a", math.MinInt), "a:"},
		{hop("a", math.MaxInt), "a:9223372036854775807"},
		{api.Via{}, ":5060"},
	} {
		if got := via.By(x.v); got != x.want {
			t.Errorf("By(%+v) = %q", x.v, got)
		}
	}
}

func TestRuleMemoryPrint(t *testing.T) {
	l := make([]api.Param, 2, 4)
	l[0], l[1] = with("branch", strings.Clone("z9hG4bK12")), bare("rport")
	spare := l[:4]
	spare[2] = with("kept", "kept")
	v := hop(strings.Clone("host.org"), 0, l...)
	s, _ := via.Print(v)
	branch, _ := via.Branch(v)
	again, _ := via.Branch(v)
	by := via.By(v)
	for _, given := range wordsOf(v) {
		for _, told := range []string{s, branch, by, via.By(api.Via{Host: v.Host, Port: -1})} {
			if !apart(told, given) {
				t.Errorf("%q shares memory with %q", told, given)
			}
		}
	}
	if !apart(branch, again) || !apart(s, branch) {
		t.Error("two answers share memory")
	}
	if spare[2] != with("kept", "kept") || spare[3] != (api.Param{}) || l[0] != with("branch", "z9hG4bK12") || l[1] != bare("rport") {
		t.Errorf("an argument was changed: %+v", spare)
	}
}
