package subs_test

import (
	"fmt"
	"math"
	"reflect"
	"slices"
	"strconv"
	"strings"
	"testing"

	"roster/addr"
	"roster/api"
	"roster/subs"
)

// The limits as the document writes them, so that a wrong constant would be seen.
const (
	lastNow     = 1 << 39
	mostSeconds = 1<<31 - 1
	lastCSeq    = 1<<31 - 1
)

// config is a set-up for so many subscriptions.
func config(n int) api.Config {
	return api.Config{Host: "pa.home", Calls: 1, Pubs: 1, Subs: n, Least: 60, Usual: 600, Most: 3600}
}

// table is a table of a set-up.
func table(t *testing.T, c api.Config) *subs.Table {
	t.Helper()
	x, err := subs.New(c)
	if x == nil || err != api.OK {
		t.Fatalf("New(%v) = %v, %d", c, x, err)
	}
	return x
}

// long is a text of n bytes.
func long(n int) string { return strings.Repeat("x", n) }

// with is a parameter with a Value.
func with(name, value string) api.Param { return api.Param{Name: name, Value: value, Has: true} }

// bare is a parameter without one.
func bare(name string) api.Param { return api.Param{Name: name} }

// counted are n parameters that may stand together.
func counted(n int) []api.Param {
	var l []api.Param
	for i := range n {
		l = append(l, with("p"+strconv.Itoa(i), "v"))
	}
	return l
}

// place is an address that is right.
func place(s string) api.Addr {
	a, err := addr.Parse(s)
	if err != api.OK {
		panic(s + " is no address")
	}
	return a
}

// event is an event with an id.
func event(id string) api.Event {
	return api.Event{Name: "presence", Params: []api.Param{with("id", id), bare("x")}}
}

// asked is the request that begins a subscription, in a talk of that number.
func asked(talk, expires int) api.Request {
	return api.Request{
		Method: "SUBSCRIBE", Target: place("sip:alice@pa.home").URI, Branch: "z9hG4bK0", SentBy: "c:5060",
		From: place("Carol <sip:carol@home>;tag=1"), To: place("<sip:alice@pa.home>;y"), FromTag: "1", CallID: "c" + strconv.Itoa(talk), Seq: 7,
		Expires: expires, Event: event("e"), Contact: []api.Addr{place("<sip:carol@d:5070>;x=1")}, Routes: []string{"<sip:p;lr>", "<sip:q:9;lr>"},
		Accept: []string{"a/b"}, Type: "c/d", Match: "e", Body: "body",
	}
}

// begun is the subscription that asked begins at a tick, with the tag x.
func begun(number, talk, until int) api.Sub {
	return api.Sub{
		Number: number, Who: "alice@pa.home", Watcher: "carol@home", Event: event("e"), State: 1, Until: until,
		Dialog: api.Dialog{
			CallID: "c" + strconv.Itoa(talk), Local: place("<sip:alice@pa.home>;y;tag=x"), Remote: place("Carol <sip:carol@home>;tag=1"),
			Target: place("sip:carol@d:5070").URI, Routes: []string{"<sip:p;lr>", "<sip:q:9;lr>"}, LastIn: 7,
		},
	}
}

// inside is a further request of a talk.
func inside(talk, seq, expires int) api.Request {
	r := asked(talk, expires)
	r.To, r.ToTag, r.Seq = place("<sip:alice@pa.home>;y;tag=x"), "x", seq
	return r
}

// even makes all empty lists of a value nil ones: these are alike.
func even(v reflect.Value) {
	switch v.Kind() {
	case reflect.Struct:
		for i := range v.NumField() {
			even(v.Field(i))
		}
	case reflect.Slice:
		if v.Len() == 0 {
			v.SetZero()
			return
		}
		c := reflect.MakeSlice(v.Type(), v.Len(), v.Len())
		reflect.Copy(c, v)
		for i := range v.Len() {
			even(c.Index(i))
		}
		v.Set(c)
	}
}

// alike tells whether two subscriptions are one; nil and empty lists are alike.
func alike(a, b api.Sub) bool {
	even(reflect.ValueOf(&a).Elem())
	even(reflect.ValueOf(&b).Elem())
	return reflect.DeepEqual(a, b)
}

// shown is a value as a test tells it, cut where it grows long.
func shown(x any) string {
	s := fmt.Sprintf("%+v", x)
	return s[:min(len(s), 1500)]
}

// begins begins a subscription of a talk, and asks what Begin should answer.
func begins(t *testing.T, x *subs.Table, now int, r api.Request, want api.Sub) {
	t.Helper()
	if got, err := x.Begin(now, r, "alice@pa.home", "carol@home", 1, "x"); err != api.OK || !alike(got, want) {
		t.Errorf("Begin(%d, %s) = %s, %d, not %s", now, shown(r), shown(got), err, shown(want))
	}
}

// again takes a further request in, and asks what Again should answer.
func again(t *testing.T, x *subs.Table, now, number int, r api.Request, want api.Sub) {
	t.Helper()
	if got, err := x.Again(now, number, r); err != api.OK || !alike(got, want) {
		t.Errorf("Again(%d, %d, %s) = %s, %d, not %s", now, number, shown(r), shown(got), err, shown(want))
	}
}

// denies asks Again for something of which there is an error.
func denies(t *testing.T, x *subs.Table, now, number int, r api.Request, want api.Errno) {
	t.Helper()
	if got, err := x.Again(now, number, r); err != want || !alike(got, api.Sub{}) {
		t.Errorf("Again(%d, %d, %s) = %s, %d, not %d", now, number, shown(r), shown(got), err, want)
	}
}

func finds(t *testing.T, x *subs.Table, r api.Request, want int) {
	t.Helper()
	if n, ok := x.Find(r); n != want || ok != (want != 0) {
		t.Errorf("Find(%s) = %d, %t, not %d", shown(r), n, ok, want)
	}
}

func expires(t *testing.T, x *subs.Table, now int, want ...int) {
	t.Helper()
	if got := x.Expire(now); !slices.Equal(got, want) {
		t.Errorf("Expire(%d) = %v, not %v", now, got, want)
	}
}

// holds asks what there is, all at once and one by one.
func holds(t *testing.T, x *subs.Table, want ...api.Sub) {
	t.Helper()
	if got := x.All(); !slices.EqualFunc(got, want, alike) {
		t.Errorf("All() = %s, not %s", shown(got), shown(want))
	}
	for _, s := range want {
		if got, ok := x.Get(s.Number); !ok || !alike(got, s) {
			t.Errorf("Get(%d) = %s, %t, not %s", s.Number, shown(got), ok, shown(s))
		}
	}
}

// misses asks that there is none of a number.
func misses(t *testing.T, x *subs.Table, numbers ...int) {
	t.Helper()
	for _, n := range numbers {
		if got, ok := x.Get(n); ok || !alike(got, api.Sub{}) {
			t.Errorf("Get(%d) = %s, %t", n, shown(got), ok)
		}
	}
}

// over is a subscription whose time was over.
func over(s api.Sub) api.Sub {
	s.State, s.Reason = 2, "timeout"
	return s
}

// wrongs are set-ups that may not be: in each, one thing alone is wrong.
func wrongs() []api.Config {
	var l []api.Config
	add := func(change func(c *api.Config)) {
		c := config(1)
		change(&c)
		l = append(l, c)
	}
	for _, n := range []int{math.MinInt, -1, 0, 201, 1<<32 + 1, math.MaxInt} {
		add(func(c *api.Config) { c.Calls = n })
		add(func(c *api.Config) { c.Pubs = n })
		add(func(c *api.Config) { c.Subs = n })
	}
	add(func(c *api.Config) { c.Least = 0 })
	add(func(c *api.Config) { c.Least = -1 })
	add(func(c *api.Config) { c.Least = 601 })
	add(func(c *api.Config) { c.Usual = 59 })
	add(func(c *api.Config) { c.Usual = 3601 })
	add(func(c *api.Config) { c.Most = 599 })
	add(func(c *api.Config) { c.Most = mostSeconds + 1 })
	return append(l, api.Config{})
}

func TestP19_1New(t *testing.T) {
	for _, c := range wrongs() {
		if x, err := subs.New(c); x != nil || err != api.ErrArg {
			t.Errorf("New(%v) = %v, %d", c, x, err)
		}
	}
	rights := []api.Config{
		config(1), config(2), config(199), config(200),
		{Calls: 1, Pubs: 1, Subs: 3, Least: 60, Usual: 60, Most: 60},
		{Calls: 200, Pubs: 200, Subs: 4, Least: 1, Usual: 60, Most: mostSeconds},
		{Host: "no host!", Calls: 1, Pubs: 1, Subs: 5, Least: 60, Usual: 600, Most: 3600},
		{Host: long(5000), Calls: 1, Pubs: 1, Subs: 6, Least: 60, Usual: 600, Most: 3600},
	}
	for _, c := range rights {
		x := table(t, c)
		holds(t, x)
		misses(t, x, 0, 1, -1)
		finds(t, x, inside(1, 8, 60), 0)
		expires(t, x, math.MaxInt)
		var all []api.Sub
		for i := range c.Subs {
			all = append(all, begun(i+1, i, 600))
			begins(t, x, 0, asked(i, 60), all[i])
		}
		if s, err := x.Begin(0, asked(0, 60), "a@b", "c@d", 1, "x"); err != 5 || !alike(s, api.Sub{}) {
			t.Errorf("of %v: %s, %d", c, shown(s), err)
		}
		holds(t, x, all...)
	}
}

func TestP19_1NilAndZero(t *testing.T) {
	for _, x := range []*subs.Table{nil, {}, new(subs.Table)} {
		for _, now := range []int{0, -1} {
			if s, err := x.Begin(now, asked(1, 60), "a@b", "c@d", 1, "x"); err != 3 || !alike(s, api.Sub{}) {
				t.Errorf("Begin: %s, %d", shown(s), err)
			}
			// Of several errors, this one is told.
			if s, err := x.Begin(now, api.Request{Expires: 1}, "", "", 7, ""); err != 3 || !alike(s, api.Sub{}) {
				t.Errorf("Begin: %s, %d", shown(s), err)
			}
			denies(t, x, now, 1, inside(1, 8, 60), 3)
			denies(t, x, now, 0, api.Request{}, 3)
		}
		for _, n := range []int{0, 1, -1, 7} {
			if a, b, c := x.Set(1, n, ""), x.Set(n, 1, "x"), x.Sent(1, n); a != 3 || b != 3 || c != 3 {
				t.Errorf("%d: %d, %d, %d", n, a, b, c)
			}
			if x.Drop(n) {
				t.Errorf("Drop(%d) is true", n)
			}
			misses(t, x, n)
			expires(t, x, n)
		}
		finds(t, x, inside(1, 8, 60), 0)
		finds(t, x, api.Request{}, 0)
		expires(t, x, math.MaxInt)
		holds(t, x)
	}
}

// The chapter's example.
func TestP19_1Example(t *testing.T) {
	x := table(t, config(1))
	begins(t, x, 5, asked(1, 60), begun(1, 1, 605))
	expires(t, x, 604)
	expires(t, x, 605, 1)
	denies(t, x, 605, 1, inside(1, 8, 60), 6)
	holds(t, x, over(begun(1, 1, 605)))
}

func TestP19_1Begin(t *testing.T) {
	x := table(t, config(9))
	begins(t, x, 5, asked(1, 60), begun(1, 1, 605))
	r := asked(2, 70)
	r.Event = api.Event{Name: "presence.winfo"}
	want := begun(2, 2, 709)
	want.Who, want.Watcher, want.Event, want.State = "e@f", "g@h", r.Event, 0
	want.Dialog.Local.Params[1].Value = "aB"
	if got, err := x.Begin(9, r, "e@f", "g@h", 0, "aB"); err != api.OK || !alike(got, want) {
		t.Errorf("%s, %d, not %s", shown(got), err, shown(want))
	}
	holds(t, x, begun(1, 1, 605), want)
	// Nothing is asked of the names, of the event, and of other fields of the request.
	for i, s := range []string{"", "no name", "\xff\x00", long(5000)} {
		r := asked(2, 60)
		r.Method, r.Target, r.Branch, r.SentBy, r.Accept, r.Type, r.Match, r.Body = "", api.URI{}, "", "", nil, "", "", ""
		r.Event = api.Event{Name: s, Params: counted(20 * i)}
		want := begun(3+i, 2, 600)
		want.Who, want.Watcher, want.Event = s, s+"!", r.Event
		if got, err := x.Begin(0, r, s, s+"!", 1, "x"); err != api.OK || !alike(got, want) {
			t.Errorf("%s, %d, not %s", shown(got), err, shown(want))
		}
	}
	// One talk may begin more of them: each is one of its own.
	begins(t, x, 0, asked(1, 60), begun(7, 1, 600))
	begins(t, x, 0, asked(1, 60), begun(8, 1, 600))
	finds(t, x, inside(1, 8, 60), 1)
}

func TestP19_1Now(t *testing.T) {
	for _, x := range []struct {
		now int
		may bool
	}{
		{math.MinInt, false}, {-lastNow, false}, {-2, false}, {-1, false},
		{0, true}, {1, true}, {1 << 31, true}, {1 << 32, true}, {lastNow - 1, true}, {lastNow, true},
		{lastNow + 1, false}, {1<<40 - 1, false}, {1 << 40, false}, {1<<40 + 1, false}, {math.MaxInt, false},
	} {
		y := table(t, config(2))
		begins(t, y, 3, asked(1, 60), begun(1, 1, 603))
		if !x.may {
			if s, err := y.Begin(x.now, asked(2, 60), "a@b", "c@d", 1, "x"); err != 1 || !alike(s, api.Sub{}) {
				t.Errorf("Begin at %d: %s, %d", x.now, shown(s), err)
			}
			denies(t, y, x.now, 1, inside(1, 8, 60), 1)
			holds(t, y, begun(1, 1, 603))
			continue
		}
		first, second := begun(1, 1, x.now+700), begun(2, 2, x.now+600)
		first.Dialog.LastIn = 8
		begins(t, y, x.now, asked(2, 60), second)
		again(t, y, x.now, 1, inside(1, 8, 70), first)
		holds(t, y, first, second)
	}
}

// seconds are what is asked for, and how long it lasts then: -1 is too short.
var seconds = []struct{ asked, n int }{
	{math.MinInt, 600}, {-2, 600}, {-1, 600}, {0, 0},
	{1, -1}, {30, -1}, {59, -1},
	{60, 60}, {61, 61}, {599, 599}, {600, 600}, {601, 601}, {3599, 3599}, {3600, 3600},
	{3601, 3600}, {mostSeconds, 3600}, {math.MaxInt, 3600},
}

func TestP19_1Seconds(t *testing.T) {
	for _, x := range seconds {
		for state := range 2 {
			y, want := table(t, config(1)), begun(1, 1, 5+10*x.n)
			want.State = state
			got, err := y.Begin(5, asked(1, x.asked), want.Who, want.Watcher, state, "x")
			switch {
			case x.n < 0:
				if err != 161 || !alike(got, api.Sub{}) {
					t.Errorf("of %d: %s, %d", x.asked, shown(got), err)
				}
				holds(t, y)
				continue
			case x.n == 0:
				want = over(want)
			}
			if err != api.OK || !alike(got, want) {
				t.Errorf("of %d: %s, %d, not %s", x.asked, shown(got), err, shown(want))
			}
			holds(t, y, want)
		}
	}
}

// What is over at once is there all the same, till it is dropped.
func TestP19_1OverAtOnce(t *testing.T) {
	x := table(t, config(1))
	begins(t, x, 9, asked(1, 0), over(begun(1, 1, 9)))
	if _, err := x.Begin(9, asked(2, 0), "a@b", "c@d", 1, "x"); err != 5 {
		t.Errorf("there was room: %d", err)
	}
	finds(t, x, inside(1, 8, 60), 1)
	denies(t, x, 9, 1, inside(1, 8, 60), 6)
	if err := x.Set(1, 1, ""); err != 6 {
		t.Errorf("Set: %d", err)
	}
	expires(t, x, 9)
	expires(t, x, math.MaxInt)
	holds(t, x, over(begun(1, 1, 9)))
	if !x.Drop(1) {
		t.Error("it is gone")
	}
	begins(t, x, 9, asked(2, 60), begun(2, 2, 609))
}

// wrong is a thing that is wrong with what Begin or Again is asked, and the
// error of that. The lists of them are in the chapter's order.
type wrong struct {
	name string
	err  api.Errno
	make func(a *ask)
}

// ask is what Begin or Again is asked of a table.
type ask struct {
	x          *subs.Table
	now        int
	number     int
	r          api.Request
	state      int
	tag        string
	terminated bool
}

func nows() []wrong {
	var l []wrong
	for _, now := range []int{math.MinInt, -1, lastNow + 1, 1 << 40, math.MaxInt} {
		l = append(l, wrong{"the tick " + strconv.Itoa(now), 1, func(a *ask) { a.now = now }})
	}
	return l
}

func briefs() []wrong {
	var l []wrong
	for _, n := range []int{1, 2, 58, 59} {
		l = append(l, wrong{strconv.Itoa(n) + " seconds", 161, func(a *ask) { a.r.Expires = n }})
	}
	return l
}

// faults are what Begin does not take. The last one is a table that is full.
func faults() [][]wrong {
	args := nows()
	for _, state := range []int{math.MinInt, -1, 2, 3, 1 << 32, math.MaxInt} {
		args = append(args, wrong{"the state " + strconv.Itoa(state), 1, func(a *ask) { a.state = state }})
	}
	of := func(err api.Errno, name string, change func(r *api.Request)) wrong {
		return wrong{name, err, func(a *ask) { change(&a.r) }}
	}
	dialogs := []wrong{
		of(1, "a ToTag", func(r *api.Request) { r.ToTag = "y" }),
		of(1, "no FromTag", func(r *api.Request) { r.FromTag = "" }),
		{"no tag", 1, func(a *ask) { a.tag = "" }},
		{"a tag that is no token", 1, func(a *ask) { a.tag = "a b" }},
		{"a tag that is too long", 1, func(a *ask) { a.tag = long(65) }},
	}
	missing := []wrong{
		of(100, "no contact", func(r *api.Request) { r.Contact = nil }),
		of(100, "two contacts", func(r *api.Request) { r.Contact = slices.Repeat(r.Contact, 2) }),
	}
	places := []wrong{
		of(50, "a name with a line's end", func(r *api.Request) { r.To.Display = "a\n" }),
		of(30, "nobody", func(r *api.Request) { r.To = api.Addr{} }),
		of(31, "a user that is too long", func(r *api.Request) { r.To.URI.User = long(65) }),
		of(32, "no host", func(r *api.Request) { r.To.URI.Host = "" }),
		of(33, "a port above", func(r *api.Request) { r.To.URI.Port = 65536 }),
		of(34, "a tag already", func(r *api.Request) { r.To.Params = []api.Param{with("tag", "x")} }),
		of(4, "16 parameters", func(r *api.Request) { r.To.Params = counted(16) }),
	}
	fill := wrong{"no room", 5, func(a *ask) {
		if _, err := a.x.Begin(0, asked(2, 60), "alice@pa.home", "carol@home", 1, "x"); err != api.OK {
			panic("it is full already")
		}
	}}
	return [][]wrong{args, dialogs, missing, places, briefs(), {fill}}
}

// right is what Begin takes, of a table that has one subscription and room for two.
func right(t *testing.T) ask {
	x := table(t, config(2))
	begins(t, x, 0, asked(1, 60), begun(1, 1, 600))
	return ask{x: x, now: 5, r: asked(3, 60), state: 1, tag: "x"}
}

// refused asks Begin, and that nothing has changed.
func (a ask) refused(t *testing.T, want api.Errno, names ...string) {
	t.Helper()
	was := a.x.All()
	got, err := a.x.Begin(a.now, a.r, "alice@pa.home", "carol@home", a.state, a.tag)
	if err != want || !alike(got, api.Sub{}) {
		t.Errorf("%q: %s, %d, not %d", names, shown(got), err, want)
	}
	holds(t, a.x, was...)
	finds(t, a.x, inside(3, 8, 60), 0)
	// What was refused has taken neither a number nor room.
	if len(was) == 2 {
		a.x.Drop(2)
	}
	begins(t, a.x, 5, asked(3, 60), begun(len(was)+1, 3, 605))
	expires(t, a.x, 599)
	expires(t, a.x, 600, 1)
	expires(t, a.x, 605, len(was)+1)
}

// TestP19_1BeginWrong has any one thing be wrong, and any two: the first is told.
func TestP19_1BeginWrong(t *testing.T) {
	all := faults()
	for i, group := range all {
		for _, x := range group {
			a := right(t)
			x.make(&a)
			a.refused(t, x.err, x.name)
			for _, y := range slices.Concat(all[i+1:]...) {
				a := right(t)
				x.make(&a)
				y.make(&a)
				a.refused(t, x.err, x.name, y.name)
			}
		}
	}
}

// A number is never given twice, whatever became of those ahead.
func TestP19_1Numbers(t *testing.T) {
	x := table(t, config(2))
	for i := range 50 {
		n := 3 * i
		begins(t, x, n, asked(n, 60), begun(n+1, n, n+600))
		begins(t, x, n, asked(n, 0), over(begun(n+2, n, n)))
		if s, err := x.Begin(n, asked(n, 60), "a@b", "c@d", 1, "x"); err != 5 {
			t.Errorf("%s, %d", shown(s), err)
		}
		x.Drop(n + 2)
		begins(t, x, n, asked(n, 70), begun(n+3, n, n+700))
		if !x.Drop(n+1) || !x.Drop(n+3) {
			t.Error("it is gone")
		}
		misses(t, x, n+1, n+2, n+3, n+4)
	}
	holds(t, x)
}

// A table is full of what is there, be it terminated or not.
func TestP19_1Full(t *testing.T) {
	for _, n := range []int{1, 2, 7, 200} {
		x := table(t, config(n))
		fails := func() {
			t.Helper()
			for _, secs := range []int{-1, 0, 60} {
				if s, err := x.Begin(0, asked(1, secs), "a@b", "c@d", 1, "x"); err != 5 || !alike(s, api.Sub{}) {
					t.Errorf("%s, %d", shown(s), err)
				}
			}
		}
		for i := range n {
			begins(t, x, 0, asked(1, 60), begun(i+1, 1, 600))
		}
		fails()
		x.Set(1, 2, "noresource")
		fails()
		x.Expire(600)
		fails()
		x.Drop(n + 1)
		fails()
		x.Drop(n)
		begins(t, x, 0, asked(2, 60), begun(n+1, 2, 600))
		fails()
	}
}
