package winfo_test

import (
	"fmt"
	"math/rand/v2"
	"strings"
	"testing"

	"roster/api"
	"roster/winfo"
)

// first is what stands ahead of what is printed.
const first = "<?xml version=\"1.0\" encoding=\"UTF-8\"?>\n"

// empty is a document of a@b without watchers, and begin begins one with some.
const (
	empty = `<watcherinfo xmlns="urn:ietf:params:xml:ns:watcherinfo" version="0" state="full"><watcher-list resource="sip:a@b" package="presence"/></watcherinfo>`
	begin = `<watcherinfo xmlns="urn:ietf:params:xml:ns:watcherinfo" version="0" state="full"><watcher-list resource="sip:a@b" package="presence">`
	end   = `</watcher-list></watcherinfo>`
)

// page writes a document in another way: by the forms of its elements.
func page(d api.Info) string {
	escape := strings.NewReplacer("&", "&amp;", "<", "&lt;", ">", "&gt;", `"`, "&quot;").Replace
	var l strings.Builder
	for _, w := range d.Watchers {
		fmt.Fprintf(&l, `<watcher id="w%d" status="%s" event="%s">sip:%s</watcher>`, w.ID, w.Status, w.Event, escape(w.URI))
	}
	inner := "/>"
	if l.Len() > 0 {
		inner = ">" + l.String() + "</watcher-list>"
	}
	return fmt.Sprintf("%s<watcherinfo xmlns=\"urn:ietf:params:xml:ns:watcherinfo\" version=\"%d\" state=\"full\"><watcher-list resource=\"sip:%s\" package=\"presence\"%s</watcherinfo>", first, d.Version, escape(d.Resource), inner)
}

func TestP15_2Print(t *testing.T) {
	const c = `<watcher id="w1" status="active" event="subscribe">sip:c@d</watcher>`
	for _, x := range []struct {
		d    api.Info
		want string
	}{
		{of(), empty},
		{of(the(1)), begin + c + end},
		{api.Info{Version: 3, Resource: "a@b", Watchers: counted(1)}, strings.Replace(begin, `"0"`, `"3"`, 1) + c + end},
		{api.Info{Version: 1<<31 - 1, Resource: "a@b"}, strings.Replace(empty, `"0"`, `"2147483647"`, 1)},
		{api.Info{Resource: "a&b%20'@[::1]"}, strings.Replace(empty, "a@b", "a&amp;b%20'@[::1]", 1)},
		{of(the(1 << 40)), begin + strings.Replace(c, "w1", "w1099511627776", 1) + end},
		{of(the(100)), begin + strings.Replace(c, "w1", "w100", 1) + end},
		{of(whose("a&b@[::1]")), begin + strings.Replace(c, "c@d", "a&amp;b@[::1]", 1) + end},
		{of(stands("pending")), begin + strings.Replace(c, "active", "pending", 1) + end},
		{of(stands("terminated")), begin + strings.Replace(c, "active", "terminated", 1) + end},
		{of(came("x-!%*_+`'~.Y0")), begin + strings.Replace(c, "subscribe", "x-!%*_+`'~.Y0", 1) + end},
		{of(api.Watcher{ID: 9, URI: "e@f", Status: "pending", Event: "subscribe"}, the(1), api.Watcher{ID: 3, URI: "c@d", Status: "terminated", Event: "timeout"}),
			begin + `<watcher id="w9" status="pending" event="subscribe">sip:e@f</watcher>` + c + `<watcher id="w3" status="terminated" event="timeout">sip:c@d</watcher>` + end},
	} {
		if got, err := winfo.Print(x.d); got != first+x.want || err != api.OK {
			t.Errorf("Print(%v) = %q, %d", x.d, got, err)
		}
	}
}

// TestP15_2PrintRight holds each document against its form, that of the most
// watchers among them.
func TestP15_2PrintRight(t *testing.T) {
	for _, d := range right() {
		if got, err := winfo.Print(d); got != page(d) || err != api.OK {
			t.Errorf("Print(%.300v) = %.3000q, %d", d, got, err)
		}
	}
}

func TestP15_2PrintWrong(t *testing.T) {
	for _, d := range wrong() {
		if got, err := winfo.Print(d); got != "" || err != api.ErrInfo {
			t.Errorf("Print(%.300v) = %.300q, %d", d, got, err)
		}
	}
}

// backAgain asks whether a document is parsed as it was printed of, and tells
// whether it was short enough.
func backAgain(t *testing.T, d api.Info) bool {
	t.Helper()
	s, err := winfo.Print(d)
	if err != api.OK {
		t.Fatalf("Print(%v) = %d", d, err)
	}
	got, err := winfo.Parse(s)
	if len(s) > api.MaxBytes {
		if err != api.ErrLong || !isZero(got) {
			t.Fatalf("%d bytes are parsed: %d", len(s), err)
		}
		return false
	}
	if err != api.OK || !alike(got, d) {
		t.Fatalf("%v is printed as %q, and parsed as %v, %d", d, s, got, err)
	}
	return true
}

func TestP15_4PrintParse(t *testing.T) {
	for _, d := range right() {
		if !backAgain(t, d) && len(d.Watchers) < 50 {
			t.Errorf("%v is too long", d)
		}
	}
}

// sized is a document of which Print has so many bytes.
func sized(t *testing.T, n int) api.Info {
	t.Helper()
	d := of(counted(50)...)
	more := n - len(page(d))
	for i := 0; more > 0; i++ {
		part := min(more, 55)
		d.Watchers[i].Event += long(part)
		more -= part
	}
	if s, err := winfo.Print(d); len(s) != n || err != api.OK {
		t.Fatalf("%d bytes, not %d: %d", len(s), n, err)
	}
	return d
}

// TestP15_4Edge asks for just as many bytes as can be parsed, and one more.
func TestP15_4Edge(t *testing.T) {
	if !backAgain(t, sized(t, 4095)) || !backAgain(t, sized(t, 4096)) || backAgain(t, sized(t, 4097)) {
		t.Error("other bytes than 4096 are the most")
	}
}

// anyDocument makes a document from draws.
func anyDocument(r *rand.Rand) api.Info {
	pick := func(l ...string) string { return l[r.IntN(len(l))] }
	d := api.Info{Version: int(r.Int64N(1 << (1 + r.IntN(31)))), Resource: pick(rightNames()...)}
	next := 0
	for range r.IntN(14) {
		next += 1 + int(r.Int64N(1<<r.IntN(36)))
		d.Watchers = append(d.Watchers, api.Watcher{
			ID: next, URI: pick(rightNames()...),
			Status: pick("pending", "active", "terminated"),
			Event:  pick("subscribe", "timeout", "rejected", "x", long(64), "a'b", "%", "`~!"),
		})
	}
	r.Shuffle(len(d.Watchers), func(i, j int) { d.Watchers[i], d.Watchers[j] = d.Watchers[j], d.Watchers[i] })
	return d
}

func TestP15_4PrintParseMany(t *testing.T) {
	r := rand.New(rand.NewPCG(15, 4))
	short := 0
	for range 5000 {
		d := anyDocument(r)
		if got, err := winfo.Print(d); got != page(d) || err != api.OK {
			t.Fatalf("Print(%v) = %q, %d", d, got, err)
		}
		if backAgain(t, d) {
			short++
		}
	}
	if short < 4000 {
		t.Errorf("only %d documents are short enough", short)
	}
}

func TestRuleMemoryPrint(t *testing.T) {
	d := api.Info{Version: 7, Resource: "alice@example", Watchers: []api.Watcher{{ID: 5, URI: "bob@here", Status: "pending", Event: "subscribe"}}}
	a, err := winfo.Print(d)
	b, again := winfo.Print(d)
	if err != api.OK || again != api.OK || a != b {
		t.Fatal(err, again)
	}
	if !apart(a, b) {
		t.Error("two answers share memory")
	}
	for _, word := range wordsOf(d) {
		if !apart(a, word) {
			t.Errorf("%q lies in the answer", word)
		}
	}
}
