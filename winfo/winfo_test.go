package winfo_test

import (
	"math"
	"slices"
	"strings"
	"testing"
	"unsafe"

	"roster/api"
	"roster/winfo"
)

// long is a text of n bytes.
func long(n int) string { return strings.Repeat("x", n) }

// one is a text of one byte.
func one(i int) string { return string([]byte{byte(i)}) }

// of is a document of a@b with these watchers.
func of(l ...api.Watcher) api.Info { return api.Info{Resource: "a@b", Watchers: l} }

// the is a watcher with an ID.
func the(id int) api.Watcher {
	return api.Watcher{ID: id, URI: "c@d", Status: "active", Event: "subscribe"}
}

// whose is a watcher of a name.
func whose(name string) api.Watcher {
	return api.Watcher{ID: 1, URI: name, Status: "active", Event: "subscribe"}
}

// stands is a watcher with a status.
func stands(status string) api.Watcher {
	return api.Watcher{ID: 1, URI: "c@d", Status: status, Event: "subscribe"}
}

// came is a watcher with an event.
func came(event string) api.Watcher {
	return api.Watcher{ID: 1, URI: "c@d", Status: "active", Event: event}
}

// counted are n watchers that may stand together.
func counted(n int) []api.Watcher {
	var l []api.Watcher
	for i := range n {
		l = append(l, the(i+1))
	}
	return l
}

// alike tells whether two documents are one; nil and empty lists are alike.
func alike(a, b api.Info) bool {
	return a.Version == b.Version && a.Resource == b.Resource && slices.Equal(a.Watchers, b.Watchers)
}

// isZero tells whether a document says nothing at all.
func isZero(d api.Info) bool { return alike(d, api.Info{}) }

// apart tells whether no byte of two texts lies in one place.
func apart(a, b string) bool {
	if a == "" || b == "" {
		return true
	}
	x, y := uintptr(unsafe.Pointer(unsafe.StringData(a))), uintptr(unsafe.Pointer(unsafe.StringData(b)))
	return x+uintptr(len(a)) <= y || y+uintptr(len(b)) <= x
}

// wordsOf are all texts of a document.
func wordsOf(d api.Info) []string {
	l := []string{d.Resource}
	for _, w := range d.Watchers {
		l = append(l, w.URI, w.Status, w.Event)
	}
	return l
}

// tokenSigns are all bytes of tokens.
const tokenSigns = "0123456789abcdefghijklmnopqrstuvwxyzABCDEFGHIJKLMNOPQRSTUVWXYZ-.!%*_+`'~"

// rightNames and wrongNames are texts that same.Host takes, and others.
func rightNames() []string {
	return []string{
		"a@b", "Bob@example.org", "a%20b@c", "a@[::1]", "a;b=c?d&e+$,/@h", "a'(b)!*~@h", "%22%3C%3E%FF%00@h", "sip@pres", "sips@1.2.3.4",
		long(64) + "@b", "a@" + long(64), strings.Repeat("%C3", 64) + "@" + long(64),
	}
}

func wrongNames() []string {
	return []string{
		"", "a", "@", "b.c", "@b", "a@", "a@B", "sip:a@b", "sips:a@b", "pres:a@b", "a@b:5060", "a@b;x", "a@b?x=1", "a:b@c", "<a@b>", "<sip:a@b>",
		" a@b", "a@b ", "a@b\n", "a b@c", "%61@b", "a%2a@b", "a%@b", "a@b@c", "é@b", "\xff@b", "a\x00@b", "a@-", "a@[::1", long(65) + "@b", "a@" + long(65), strings.Repeat("a@b", 50000),
	}
}

// right are documents that may be.
func right() []api.Info {
	l := []api.Info{
		of(), of(counted(1)...), of(counted(2)...), of(counted(197)...), of(counted(198)...), {Resource: "a@b", Watchers: []api.Watcher{}},
		{Version: 1, Resource: "a@b"}, {Version: 1<<31 - 2, Resource: "a@b"}, {Version: 1<<31 - 1, Resource: "a@b"},
		// IDs.
		of(the(1)), of(the(2)), of(the(1 << 31)), of(the(1 << 32)), of(the(1<<40 - 1)), of(the(1 << 40)), of(the(7), the(3), the(5)), of(the(1), the(11), the(1<<32+1)),
		// All but the ID may be the same, and whoever is watched may watch.
		of(the(2), the(1)), of(whose("a@b")),
		// Where they stand.
		of(stands("pending")), of(stands("active")), of(stands("terminated")),
		// Events.
		of(came("subscribe")), of(came("approved")), of(came("timeout")), of(came("SUBSCRIBE")), of(came("x")), of(came(long(64))), of(came(tokenSigns[:64])), of(came(tokenSigns[64:])),
	}
	for _, s := range rightNames() {
		l = append(l, api.Info{Version: 3, Resource: s}, of(whose(s)), api.Info{Resource: s, Watchers: []api.Watcher{whose(s)}})
	}
	for i := range tokenSigns {
		l = append(l, of(came(tokenSigns[i:i+1])))
	}
	return l
}

// wrong are documents that may not be.
func wrong() []api.Info {
	l := []api.Info{
		{}, {Watchers: counted(1)}, of(counted(199)...), of(counted(200)...), of(counted(5000)...), of(api.Watcher{}), of(counted(1)[0], api.Watcher{}),
		{Version: -1, Resource: "a@b"}, {Version: 1 << 31, Resource: "a@b"}, {Version: 1 << 32, Resource: "a@b"}, {Version: math.MinInt, Resource: "a@b"}, {Version: math.MaxInt, Resource: "a@b"},
		// IDs.
		of(the(0)), of(the(-1)), of(the(1<<40 + 1)), of(the(1 << 62)), of(the(math.MinInt)), of(the(math.MaxInt)),
		of(the(1), the(1)), of(the(1), the(2), the(1)), of(the(1), the(2), the(2)), of(the(1), the(2), the(0)), of(whose("a@b"), whose("c@d")), of(stands("active"), stands("pending")), of(came("x"), came("y")),
		// Where they stand.
		of(stands("")), of(stands("x")), of(stands("Active")), of(stands("ACTIVE")), of(stands("waiting")), of(stands("actives")), of(stands("activ")), of(stands(" active")), of(stands("active ")), of(stands("pending;active")), of(stands("pendin")), of(stands("terminate")), of(stands("Pending")), of(stands("Terminated")), of(stands("0")), of(stands(long(100000))),
		// Events.
		of(came("")), of(came(long(65))), of(came(long(100000))), of(came("a b")), of(came(" x")), of(came("x ")), of(came("x\n")), of(came("é")),
	}
	for _, s := range wrongNames() {
		l = append(l, api.Info{Resource: s}, of(whose(s)), of(the(2), whose(s)))
	}
	for i := range 256 {
		if strings.Contains(tokenSigns, one(i)) {
			continue
		}
		l = append(l, of(came(one(i))), of(came("x"+one(i))), of(came(one(i)+"x")))
	}
	return l
}

func TestP15_1Check(t *testing.T) {
	for _, d := range right() {
		if err := winfo.Check(d); err != api.OK {
			t.Errorf("Check(%.300v) = %d", d, err)
		}
	}
}

func TestP15_1CheckWrong(t *testing.T) {
	for _, d := range wrong() {
		if err := winfo.Check(d); err != api.ErrInfo {
			t.Errorf("Check(%.300v) = %d", d, err)
		}
	}
}

// TestP15_1CheckPlaces asks for a fault in each place of the list.
func TestP15_1CheckPlaces(t *testing.T) {
	for i := range 198 {
		for name, change := range map[string]func(l []api.Watcher){
			"no ID":         func(l []api.Watcher) { l[i].ID = 0 },
			"another's ID":  func(l []api.Watcher) { l[i].ID = l[(i+7)%198].ID },
			"a wrong name":  func(l []api.Watcher) { l[i].URI += ":1" },
			"no status":     func(l []api.Watcher) { l[i].Status = "" },
			"a wrong event": func(l []api.Watcher) { l[i].Event += "=" },
		} {
			d := of(counted(198)...)
			change(d.Watchers)
			if err := winfo.Check(d); err != api.ErrInfo {
				t.Errorf("%s at %d: %d", name, i, err)
			}
		}
	}
}

func TestP15_1Type(t *testing.T) {
	if winfo.Type != "application/watcherinfo+xml" {
		t.Error(winfo.Type)
	}
}

func TestRuleMemoryGiven(t *testing.T) {
	room := []api.Watcher{the(9), the(3), the(7), the(3), {}}
	want := slices.Clone(room)
	d := of(room[:3]...)
	if err := winfo.Check(d); err != api.OK {
		t.Error(err)
	}
	if _, err := winfo.Print(d); err != api.OK {
		t.Error(err)
	}
	if !slices.Equal(room, want) {
		t.Errorf("what was handed in has changed: %v", room)
	}
}
