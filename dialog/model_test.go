package dialog_test

import (
	"fmt"
	"math"
	"slices"
	"strings"
	"testing"

	"roster/addr"
	"roster/api"
	"roster/dialog"
	"roster/frame"
	"roster/reply"
	"roster/uri"
	"roster/via"
)

// draws are numbers that look chosen by chance but are the same each time.
type draws uint64

func (d *draws) below(n int) int {
	*d = *d*6364136223846793005 + 1442695040888963407
	return int(uint64(*d)>>33) % n
}

// pick picks one of a list.
func pick[T any](d *draws, l ...T) T { return l[d.below(len(l))] }

// subscribe is a request as it comes, read.
func subscribe(t *testing.T, seq int, toTag, contact, routes string) api.Request {
	t.Helper()
	s := fmt.Sprintf("SUBSCRIBE sip:alice@pa.home SIP/2.0\r\nv: SIP/2.0/UDP c:5070;branch=z9hG4bK0\r\nf: Carol <sip:carol@home>;tag=1\r\nt: sip:alice@pa.home%s\r\ni: c1\r\nCSeq: %d SUBSCRIBE\r\n%s%so: presence\r\n\r\n", toTag, seq, contact, routes)
	m, err := frame.Parse(s)
	if err != api.OK {
		t.Fatalf("%q: %d", s, err)
	}
	r, err := reply.Read(m)
	if err != api.OK {
		t.Fatalf("%q: %d", s, err)
	}
	return r
}

// talk is what a test knows of a dialog: which numbers were taken, how many
// requests were sent, where these go.
type talk struct {
	d      api.Dialog
	taken  map[int]int
	last   int
	sent   int
	target string
	routes []string
}

// hears has a request come, and asks whether it is taken in just as it must be.
func (k *talk) hears(t *testing.T, r api.Request, target string) {
	t.Helper()
	d, err := dialog.Take(k.d, r)
	own := r.CallID == "c1" && r.ToTag == "x" && r.FromTag == "1"
	switch {
	case dialog.Match(k.d, r) != own:
		t.Fatalf("Match(%+v, %+v) = %v", k.d, r, !own)
	case !own && err != api.ErrNone, own && r.Seq <= k.last && err != api.ErrOld, own && r.Seq > k.last && err != api.OK:
		t.Fatalf("behind %d: Take of %+v: %d", k.last, r, err)
	case err != api.OK && !alike(d, k.d):
		t.Fatalf("%+v changed to %+v, %d", k.d, d, err)
	}
	if err == api.OK {
		k.taken[r.Seq]++
		k.last = r.Seq
		if len(r.Contact) == 1 {
			k.target = target
		}
	}
	if k.taken[r.Seq] > 1 || err == api.OK && d.LastIn != r.Seq {
		t.Fatalf("%d was taken %d times: %+v", r.Seq, k.taken[r.Seq], d)
	}
	k.d = d
}

// tells has a request be written, and reads it.
func (k *talk) tells(t *testing.T, branch, body string) {
	t.Helper()
	s, d, err := dialog.Notify(k.d, "pa.home", branch, []api.Header{{Name: "Event", Value: "presence"}}, body)
	m, parseErr := frame.Parse(s)
	if err != api.OK || parseErr != api.OK {
		t.Fatalf("%q, %d, %d", s, err, parseErr)
	}
	k.sent++
	k.d.LastOut = k.sent
	if !alike(d, k.d) {
		t.Fatalf("%+v, not %+v", d, k.d)
	}
	r, err := reply.Read(m)
	if err != api.OK || r.Method != "NOTIFY" || r.Seq != k.sent || r.CallID != "c1" || r.Branch != branch || r.SentBy != "pa.home:5060" || r.Body != body || r.Event.Name != "presence" {
		t.Fatalf("%q: %+v, %d", s, r, err)
	}
	// The tags the other way round: what was To is From.
	if r.FromTag != "x" || r.ToTag != "1" || r.From.URI.User != "alice" || r.To.URI.User != "carol" || r.To.Display != "Carol" || r.From.Display != "" {
		t.Fatalf("%q: the ends are %+v and %+v", s, r.From, r.To)
	}
	if m.Target != k.target || !slices.Equal(frame.All(m, "Route"), k.routes) || !slices.Equal(frame.All(m, "Contact"), []string{"<sip:pa.home>"}) {
		t.Fatalf("%q goes not to %s by %q", s, k.target, k.routes)
	}
}

// starts begins a dialog by a request with a number.
func starts(t *testing.T, seq int, routes ...string) *talk {
	t.Helper()
	line := ""
	if len(routes) > 0 {
		line = "Record-Route: " + strings.Join(routes, " , ") + "\r\n"
	}
	r := subscribe(t, seq, "", "m: <sip:carol@d:5070>\r\n", line)
	d, err := dialog.Begin(r, "x")
	if err != api.OK {
		t.Fatalf("Begin(%+v): %d", r, err)
	}
	k := &talk{d: d, taken: map[int]int{seq: 1}, last: seq, target: "sip:carol@d:5070", routes: routes}
	// The same request with the tag that it was answered with is old.
	k.hears(t, subscribe(t, seq, ";tag=x", "", ""), "")
	return k
}

func TestP18_5Talk(t *testing.T) {
	for seed := range 60 {
		w := draws(seed)
		k := starts(t, pick(&w, 0, 1, 7, 1<<30), pick(&w, nil, []string{"<sip:p;lr>"}, []string{"<sip:p;lr>", `"Q, <q>" <sips:q:9>;x`, "<sip:p;lr>"})...)
		for n := range 80 {
			if w.below(3) == 0 {
				k.tells(t, fmt.Sprintf("z9hG4bK%d", n), pick(&w, "", "body", "\r\n\r\n"))
				continue
			}
			host := fmt.Sprintf("h%d", n)
			contact := pick(&w, "", fmt.Sprintf("m: \"C\" <sips:c@%s;x>;y\r\n", host), fmt.Sprintf("m: <sip:c@%s>,<sip:c@e>\r\n", host))
			r := subscribe(t, max(0, k.last+pick(&w, -k.last, -7, -1, 0, 0, 1, 1, 2, 9)), pick(&w, ";tag=x", ";tag=x", ";tag=x", "", ";tag=y", ";tag=X"), contact, pick(&w, "", "Record-Route: <sip:other>\r\n"))
			k.hears(t, r, fmt.Sprintf("sips:c@%s;x", host))
			// It comes again.
			k.hears(t, r, "none")
		}
		if k.sent < 10 || len(k.taken) < 5 {
			t.Errorf("%d: only %d were taken, and %d sent", seed, len(k.taken), k.sent)
		}
	}
}

// TestP18_5Requests asks for all numbers up to a hundred, and for the last ones.
func TestP18_5Requests(t *testing.T) {
	k := starts(t, 7)
	for n := 1; n <= 100; n++ {
		// What can't be written takes no number.
		if _, d, err := dialog.Notify(k.d, "", "z9hG4bK1", nil, ""); err != api.ErrHost || !alike(d, k.d) {
			t.Fatalf("%+v, %d", d, err)
		}
		k.tells(t, "z9hG4bK1", "")
		if k.d.LastOut != n {
			t.Fatalf("the request %d has the number %d", n, k.d.LastOut)
		}
	}
	k.d.LastOut, k.sent = api.MaxCSeq-2, api.MaxCSeq-2
	k.tells(t, "z9hG4bK1", "")
	k.tells(t, "z9hG4bK1", "")
	if s, d, err := dialog.Notify(k.d, "pa.home", "z9hG4bK1", nil, ""); s != "" || err != api.ErrSeq || d.LastOut != api.MaxCSeq {
		t.Errorf("behind the last number: %q, %d, %d", s, d.LastOut, err)
	}
}

// TestP18_5Taken has requests come in any order: those that are taken rise.
func TestP18_5Taken(t *testing.T) {
	for seed := range 200 {
		w := draws(seed)
		k := starts(t, w.below(20))
		r, last := inside(), k.last
		for range 40 {
			r.Seq = pick(&w, w.below(60), w.below(60), w.below(60), -1, math.MinInt)
			k.hears(t, r, "sip:carol@d:5070")
			if k.last < last {
				t.Fatalf("%d behind %d", k.last, last)
			}
			last = k.last
		}
		r.Seq = math.MaxInt
		k.hears(t, r, "sip:carol@d:5070")
		k.hears(t, r, "none")
	}
}

// The pieces of dialogs and requests, right ones and wrong ones.
func (w *draws) tag() string { return pick(w, "x", "x", "1", "1", "", "a b", "X") }

func (w *draws) params() []api.Param {
	var l []api.Param
	for range w.below(4) {
		l = append(l, pick(w, bare("lr"), with("tag", w.tag()), with("TAG", w.tag()), with("tag", "x"), with("y", "\x01"), bare("tag"), with("z", "[::1]")))
	}
	if w.below(40) == 0 {
		return append(counted(15+w.below(3)), l...)
	}
	return l
}

func (w *draws) uri() api.URI {
	u := api.URI{Scheme: "sip", User: pick(w, "", "a", "a b"), Host: pick(w, "b", "b.c", "[::1]"), Port: pick(w, 0, 9, 65535)}
	switch w.below(30) {
	case 0:
		return api.URI{}
	case 1:
		u.Scheme = "tel"
	case 2:
		u.Host = "B"
	case 3:
		u.Port = pick(w, -1, 65536)
	case 4:
		u.Params, u.Headers = w.params(), w.params()
	}
	return u
}

func (w *draws) place() api.Addr {
	return api.Addr{Display: pick(w, "", "A b", "\"", "\x01", "a\nb", long(64+w.below(2)), "", "", ""), URI: w.uri(), Params: w.params()}
}

func (w *draws) route() string {
	return pick(w, "<sip:p;lr>", "sip:q:9", "P <sip:p:0>", "", " <sip:p>", "<sip:p>", "<sip:\x01>", "none")
}

func (w *draws) dialog() api.Dialog {
	d := api.Dialog{CallID: pick(w, "c1", "c1", "c1", "", "c2 "), Local: w.place(), Remote: w.place(), Target: w.uri(), LastIn: pick(w, 0, 7, 7, -1, math.MaxInt), LastOut: pick(w, 0, 0, 1, 99, api.MaxCSeq-1, api.MaxCSeq, -1, math.MaxInt, math.MinInt)}
	for range w.below(4) {
		d.Routes = append(d.Routes, w.route())
	}
	return d
}

func (w *draws) request() api.Request {
	r := api.Request{From: w.place(), To: w.place(), FromTag: w.tag(), ToTag: pick(w, "", w.tag()), CallID: pick(w, "c1", "c1", "c2 ", ""), Seq: pick(w, 0, 7, 8, -1, math.MaxInt, math.MinInt)}
	for range pick(w, 1, 1, 1, 0, 2) {
		r.Contact = append(r.Contact, w.place())
	}
	for range w.below(3) {
		r.Routes = append(r.Routes, w.route())
	}
	return r
}

// wantBegin is what Begin should answer, asked one by one.
func wantBegin(r api.Request, tag string) (api.Dialog, api.Errno) {
	local := r.To
	local.Params = append(slices.Clone(r.To.Params), with("tag", tag))
	// The tags that are picked are tokens, but for these.
	noToken := tag == "" || len(tag) > 64 || strings.Contains(tag, " ")
	switch {
	case r.ToTag != "", r.FromTag == "", noToken:
		return api.Dialog{}, 1
	case len(r.Contact) != 1:
		return api.Dialog{}, 100
	case addr.Check(local) != api.OK:
		return api.Dialog{}, addr.Check(local)
	}
	return api.Dialog{CallID: r.CallID, Local: local, Remote: r.From, Target: r.Contact[0].URI, Routes: r.Routes, LastIn: r.Seq}, 0
}

// wantNotify is the message that Notify should write, written by hand.
func wantNotify(c call) (string, api.Errno) {
	if c.d.LastOut < 0 || c.d.LastOut > 2147483646 {
		return "", 80
	}
	target, err1 := uri.Print(c.d.Target)
	hop, err2 := via.Print(api.Via{Host: c.host, Params: []api.Param{with("branch", c.branch)}})
	local, err3 := addr.Print(c.d.Local)
	remote, err4 := addr.Print(c.d.Remote)
	for _, err := range []api.Errno{err1, err2, err3, err4} {
		if err != api.OK {
			return "", err
		}
	}
	lines := []string{"Via: " + hop, "Max-Forwards: 70"}
	for _, route := range c.d.Routes {
		lines = append(lines, "Route: "+route)
	}
	lines = append(lines, "From: "+local, "To: "+remote, "Call-ID: "+c.d.CallID, fmt.Sprintf("CSeq: %d NOTIFY", c.d.LastOut+1), "Contact: <sip:"+c.host+">")
	for _, h := range c.more {
		lines = append(lines, h.Name+": "+h.Value)
	}
	if len(lines) > 64 {
		return "", 4
	}
	for _, line := range lines {
		name, value, _ := strings.Cut(line, ": ")
		if name == "" || frame.Long(name) != name || strings.Trim(value, " \t") != value || strings.ContainsFunc(line, func(c rune) bool { return c < ' ' && c != '\t' || c == 127 }) {
			return "", 61
		}
	}
	s := "NOTIFY " + target + " SIP/2.0\r\n" + strings.Join(lines, "\r\n") + fmt.Sprintf("\r\nContent-Length: %d\r\n\r\n", len(c.body)) + c.body
	if len(s) > 4096 {
		return "", 2
	}
	return s, 0
}

func TestP18_1Mixed(t *testing.T) {
	errs := map[api.Errno]int{}
	w := draws(1)
	for range 60000 {
		r, tag := w.request(), pick(&w, "x", "x", "aB", "", "a b", long(64+w.below(2)))
		want, wanted := wantBegin(r, tag)
		got, err := dialog.Begin(r, tag)
		if err != wanted || !alike(got, want) {
			t.Fatalf("Begin(%+v, %q) = %+v, %d, not %+v, %d", r, tag, got, err, want, wanted)
		}
		errs[err]++
	}
	for _, err := range []api.Errno{0, 1, 100, 4, 30, 32, 33, 34, 50} {
		if errs[err] < 20 {
			t.Errorf("the answer %d came only %d times: %v", err, errs[err], errs)
		}
	}
}

func TestP18_2Mixed(t *testing.T) {
	w := draws(2)
	came := map[api.Errno]int{}
	for range 60000 {
		d, r := w.dialog(), w.request()
		if w.below(2) == 0 {
			r.CallID, r.ToTag, r.FromTag = d.CallID, addr.Tag(d.Local), addr.Tag(d.Remote)
		}
		want := api.OK
		if r.CallID != d.CallID || r.ToTag != addr.Tag(d.Local) || r.FromTag != addr.Tag(d.Remote) {
			want = api.ErrNone
		} else if r.Seq <= d.LastIn {
			want = api.ErrOld
		}
		if got := dialog.Match(d, r); got != (want != api.ErrNone) {
			t.Fatalf("Match(%+v, %+v) = %v", d, r, got)
		}
		takes(t, d, r, want)
		came[want]++
	}
	if t.Failed() || came[0] < 5000 || came[6] < 5000 || came[180] < 5000 {
		t.Errorf("%v", came)
	}
}

func TestP18_3Mixed(t *testing.T) {
	w := draws(3)
	empty := 0
	for range 20000 {
		d := w.dialog()
		u, err := d.Target, api.OK
		if len(d.Routes) > 0 {
			var a api.Addr
			a, err = addr.Parse(d.Routes[0])
			u = a.URI
		}
		want := via.By(api.Via{Host: u.Host, Port: u.Port})
		if err != api.OK {
			want = ""
			empty++
		}
		if got := dialog.Where(d); got != want {
			t.Fatalf("Where(%+v) = %q, not %q", d, got, want)
		}
	}
	if empty < 2000 {
		t.Errorf("only %d routes are no addresses", empty)
	}
}

func TestP18_4Mixed(t *testing.T) {
	w := draws(4)
	came := map[api.Errno]int{}
	for range 60000 {
		c := call{d: w.dialog(), host: pick(&w, "pa.home", "pa.home", "pa.home", "[::1]", "", "A"), branch: pick(&w, "z9hG4bK1", "z9hG4bK1", "z9hG4bK1", "a b", "", "\x01", "\n", long(65)), body: pick(&w, "", "body", "\r\n", long(3700+w.below(300)))}
		for range w.below(4) {
			c.more = append(c.more, api.Header{Name: pick(&w, "A", "Event", "Via", "Event", "A", "A", "", "v"), Value: pick(&w, "", "b", "b\tc", "b", "b", " b", "b\n")})
		}
		if w.below(10) == 0 {
			c.more = slices.Repeat([]api.Header{{Name: "A", Value: "b"}}, 50+w.below(9))
		}
		want, wanted := wantNotify(c)
		then := c.d
		if wanted == api.OK {
			then.LastOut++
		}
		if got, d, err := c.notify(); got != want || err != wanted || !alike(d, then) {
			t.Fatalf("of %+v: %q, %+v, %d, not %q, %d", c, got, d, err, want, wanted)
		}
		came[wanted]++
	}
	for _, err := range []api.Errno{0, 2, 4, 30, 32, 33, 34, 50, 61, 80} {
		if came[err] < 20 {
			t.Errorf("the answer %d came only %d times: %v", err, came[err], came)
		}
	}
}

// TestRuleAgain asks for one thing many times: nothing is kept from call to call.
func TestRuleAgain(t *testing.T) {
	c := right()
	want, _, _ := c.notify()
	for range 50 {
		begins(t, asked(), "x", begun())
		takes(t, begun(), inside(), 0)
		if got, d, err := c.notify(); got != want || d.LastOut != 1 || err != api.OK {
			t.Fatalf("%q, %d, %d", got, d.LastOut, err)
		}
	}
}
