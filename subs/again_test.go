package subs_test

import (
	"math"
	"slices"
	"strconv"
	"testing"

	"roster/api"
	"roster/subs"
)

func TestP19_2Find(t *testing.T) {
	x := table(t, config(9))
	for i := range 4 {
		begins(t, x, 0, asked(i%2, 60), begun(i+1, i%2, 600))
	}
	tagged := asked(0, 60)
	tagged.From, tagged.FromTag = place("<sip:e@f>;tag=2"), "2"
	if s, err := x.Begin(0, tagged, "a@b", "c@d", 1, "z"); s.Number != 5 || err != api.OK {
		t.Fatal(s, err)
	}
	other := func(from, to, id string) api.Request {
		return api.Request{FromTag: from, ToTag: to, CallID: id}
	}
	finds(t, x, inside(0, 8, 60), 1)
	finds(t, x, inside(1, 8, 60), 2)
	// Nothing else of a request counts: not even that it is too old.
	finds(t, x, inside(1, 7, 1), 2)
	finds(t, x, other("1", "x", "c0"), 1)
	finds(t, x, other("1", "x", "c1"), 2)
	finds(t, x, other("2", "z", "c0"), 5)
	for _, r := range []api.Request{{}, asked(0, 60), other("1", "x", "c2"), other("1", "x", "C0"), other("1", "x", ""), other("1", "X", "c0"), other("1", "", "c0"), other("", "x", "c0"), other("x", "1", "c0"), other("2", "x", "c0"), other("1", "z", "c0"), other("2", "z", "c1")} {
		finds(t, x, r, 0)
	}
	// The least one that is there, terminated or not.
	x.Set(1, 2, "")
	finds(t, x, inside(0, 8, 60), 1)
	x.Drop(1)
	finds(t, x, inside(0, 8, 60), 3)
	x.Expire(600)
	finds(t, x, inside(0, 8, 60), 3)
	x.Drop(3)
	finds(t, x, inside(0, 8, 60), 0)
	finds(t, x, inside(1, 8, 60), 2)
	x.Drop(2)
	x.Drop(4)
	finds(t, x, inside(1, 8, 60), 0)
}

// Of a great many of one dialog the least is found each time.
func TestP19_2FindLeast(t *testing.T) {
	x := table(t, config(200))
	for i := range 200 {
		begins(t, x, 0, asked(1, 60), begun(i+1, 1, 600))
	}
	for i := range 200 {
		finds(t, x, inside(1, 8, 60), i+1)
		x.Drop(i + 1)
	}
	finds(t, x, inside(1, 8, 60), 0)
}

func TestP19_2Again(t *testing.T) {
	x := table(t, config(2))
	begins(t, x, 0, asked(1, 60), begun(1, 1, 600))
	begins(t, x, 0, asked(2, 60), begun(2, 2, 600))
	want := begun(1, 1, 5+700)
	want.Dialog.LastIn = 8
	again(t, x, 5, 1, inside(1, 8, 70), want)
	holds(t, x, want, begun(2, 2, 600))
	// Without a Contact the target stays; with one it is that.
	r := inside(1, 10, 61)
	r.Contact = nil
	want.Until, want.Dialog.LastIn = 610, 10
	again(t, x, 0, 1, r, want)
	r = inside(1, 11, 60)
	r.Contact = []api.Addr{place("<sips:other@e>;x=1")}
	want.Until, want.Dialog.LastIn, want.Dialog.Target = 700, 11, r.Contact[0].URI
	again(t, x, 100, 1, r, want)
	r = inside(1, 12, 60)
	r.Contact = slices.Repeat(r.Contact, 2)
	want.Dialog.LastIn = 12
	again(t, x, 100, 1, r, want)
	// Routes, ends and the event stay those that it began with.
	r = inside(1, math.MaxInt, 60)
	r.Contact, r.Routes, r.From, r.To = nil, []string{"<sip:z>"}, place("sip:y@z"), place("sip:y@z")
	r.Event.Params = []api.Param{bare("other"), with("id", "e")}
	want.Dialog.LastIn = math.MaxInt
	again(t, x, 100, 1, r, want)
	holds(t, x, want, begun(2, 2, 600))
}

// The state stays, and its reason; the dialog's own number, too.
func TestP19_2Stays(t *testing.T) {
	for _, state := range []int{0, 1} {
		x, want := table(t, config(1)), begun(1, 1, 0)
		want.State, want.Reason, want.Dialog.LastOut = state, "why not", 3
		if _, err := x.Begin(0, asked(1, 60), want.Who, want.Watcher, 1-state, "x"); err != api.OK {
			t.Fatal(err)
		}
		if a, b := x.Set(1, state, "why not"), x.Sent(1, 3); a != api.OK || b != api.OK {
			t.Fatal(a, b)
		}
		want.Until, want.Dialog.LastIn = 700, 8
		again(t, x, 100, 1, inside(1, 8, 60), want)
		want.Until, want.Dialog.LastIn = 200, 9
		again(t, x, 200, 1, inside(1, 9, 0), over(want))
		holds(t, x, over(want))
	}
}

func TestP19_2Seconds(t *testing.T) {
	for _, s := range seconds {
		x, want := table(t, config(1)), begun(1, 1, 7+10*s.n)
		begins(t, x, 0, asked(1, 60), begun(1, 1, 600))
		if s.n < 0 {
			denies(t, x, 7, 1, inside(1, 8, s.asked), 161)
			holds(t, x, begun(1, 1, 600))
			continue
		}
		want.Dialog.LastIn = 8
		if s.n == 0 {
			want = over(want)
		}
		again(t, x, 7, 1, inside(1, 8, s.asked), want)
		holds(t, x, want)
		if s.n == 0 {
			expires(t, x, math.MaxInt)
			continue
		}
		expires(t, x, want.Until-1)
		expires(t, x, want.Until, 1)
	}
}

// One whose time is over goes on all the same, until Expire has told so.
func TestP19_2Late(t *testing.T) {
	x, want := table(t, config(1)), begun(1, 1, 1600)
	begins(t, x, 0, asked(1, 60), begun(1, 1, 600))
	want.Dialog.LastIn = 8
	again(t, x, 1000, 1, inside(1, 8, 60), want)
	expires(t, x, 1599)
	expires(t, x, 1600, 1)
	denies(t, x, 0, 1, inside(1, 9, 60), 6)
	holds(t, x, over(want))
}

// The events are held against each other by name and id alone.
func TestP19_2Events(t *testing.T) {
	id := func(name string, p ...api.Param) api.Event { return api.Event{Name: name, Params: p} }
	for _, e := range []struct {
		a, b api.Event
		want bool
	}{
		{id("presence"), id("presence"), true},
		{id("presence"), id("presence", bare("x"), with("y", "z")), true},
		{id("presence", with("id", "1")), id("presence", bare("x"), with("id", "1")), true},
		{id("presence", with("id", "1")), id("presence", with("ID", "1")), true},
		{id(""), id(""), true},
		{id("presence"), id("Presence"), false},
		{id("presence"), id("presence.winfo"), false},
		{id("presence"), id(""), false},
		{id(""), id("presence"), false},
		{id("presence"), id("presence", with("id", "1")), false},
		{id("presence", with("id", "1")), id("presence"), false},
		{id("presence", with("id", "1")), id("presence", with("id", "2")), false},
		{id("presence", with("id", "a")), id("presence", with("id", "A")), false},
		{id("presence"), id("presence", with("id", "")), false},
	} {
		x, want := table(t, config(1)), begun(1, 1, 600)
		r := asked(1, 60)
		r.Event, want.Event = e.a, e.a
		begins(t, x, 0, r, want)
		r = inside(1, 8, 60)
		r.Event = e.b
		if !e.want {
			denies(t, x, 0, 1, r, 81)
			holds(t, x, want)
			continue
		}
		want.Dialog.LastIn = 8
		again(t, x, 0, 1, r, want)
	}
}

// againFaults are what Again does not take.
func againFaults() [][]wrong {
	var none []wrong
	for _, n := range []int{math.MinInt, -1, 0, 3, 4, math.MaxInt} {
		none = append(none, wrong{"the number " + strconv.Itoa(n), 6, func(a *ask) { a.number = n }})
	}
	end := func(how func(x *subs.Table)) func(a *ask) {
		return func(a *ask) {
			a.terminated = true
			how(a.x)
		}
	}
	none = append(none,
		wrong{"a terminated one", 6, end(func(x *subs.Table) { x.Set(1, 2, "noresource") })},
		wrong{"one whose time is over", 6, end(func(x *subs.Table) { x.Expire(600) })},
		wrong{"one that was ended", 6, end(func(x *subs.Table) { x.Again(9, 1, inside(1, 8, 0)) })},
		wrong{"one that was dropped", 6, end(func(x *subs.Table) { x.Drop(1) })})
	of := func(err api.Errno, name string, change func(r *api.Request)) wrong {
		return wrong{name, err, func(a *ask) { change(&a.r) }}
	}
	others := []wrong{
		{"another's number", 6, func(a *ask) { a.number = 2 }},
		of(6, "another talk", func(r *api.Request) { r.CallID = "c2" }),
		of(6, "no ToTag", func(r *api.Request) { r.ToTag = "" }),
		of(6, "another ToTag", func(r *api.Request) { r.ToTag = "y" }),
		of(6, "no FromTag", func(r *api.Request) { r.FromTag = "" }),
		of(6, "another FromTag", func(r *api.Request) { r.FromTag = "x" }),
	}
	var olds []wrong
	for _, seq := range []int{math.MinInt, -1, 0, 6, 7} {
		olds = append(olds, of(180, "the sequence number "+strconv.Itoa(seq), func(r *api.Request) { r.Seq = seq }))
	}
	events := []wrong{
		of(81, "no event", func(r *api.Request) { r.Event = api.Event{} }),
		of(81, "another event", func(r *api.Request) { r.Event.Name = "presence.winfo" }),
		of(81, "another id", func(r *api.Request) { r.Event.Params = []api.Param{with("id", "E")} }),
		of(81, "no id", func(r *api.Request) { r.Event.Params = []api.Param{bare("x")} }),
	}
	return [][]wrong{nows(), none, others, olds, events, briefs()}
}

// goesOn is what Again takes.
func goesOn(t *testing.T) ask {
	x := table(t, config(2))
	begins(t, x, 0, asked(1, 60), begun(1, 1, 600))
	begins(t, x, 0, asked(2, 70), begun(2, 2, 700))
	return ask{x: x, now: 5, number: 1, r: inside(1, 8, 60)}
}

// denied asks Again, and that nothing has changed.
func (a ask) denied(t *testing.T, want api.Errno, names ...string) {
	t.Helper()
	was := a.x.All()
	got, err := a.x.Again(a.now, a.number, a.r)
	if err != want || !alike(got, api.Sub{}) {
		t.Errorf("%q: %s, %d, not %d", names, shown(got), err, want)
	}
	holds(t, a.x, was...)
	if a.terminated {
		expires(t, a.x, 699)
		expires(t, a.x, 700, 2)
		return
	}
	// What was not taken has not been counted, either.
	taken := begun(1, 1, 609)
	taken.Dialog.LastIn = 8
	again(t, a.x, 9, 1, inside(1, 8, 60), taken)
	expires(t, a.x, 608)
	expires(t, a.x, 609, 1)
	expires(t, a.x, 700, 2)
}

// TestP19_2AgainWrong has any one thing be wrong, and any two: the first is told.
func TestP19_2AgainWrong(t *testing.T) {
	all := againFaults()
	for i, group := range all {
		for _, x := range group {
			a := goesOn(t)
			x.make(&a)
			a.denied(t, x.err, x.name)
			for _, y := range slices.Concat(all[i+1:]...) {
				a := goesOn(t)
				x.make(&a)
				y.make(&a)
				a.denied(t, x.err, x.name, y.name)
			}
		}
	}
}

// The dialog of a subscription alone counts: of two in one talk, each takes the request once.
func TestP19_2OneTalk(t *testing.T) {
	x := table(t, config(2))
	begins(t, x, 0, asked(1, 60), begun(1, 1, 600))
	begins(t, x, 0, asked(1, 60), begun(2, 1, 600))
	first, second := begun(1, 1, 700), begun(2, 1, 800)
	first.Dialog.LastIn, second.Dialog.LastIn = 8, 8
	again(t, x, 0, 1, inside(1, 8, 70), first)
	denies(t, x, 0, 1, inside(1, 8, 70), 180)
	again(t, x, 0, 2, inside(1, 8, 80), second)
	denies(t, x, 0, 2, inside(1, 8, 80), 180)
	holds(t, x, first, second)
}

func TestP19_5GetAll(t *testing.T) {
	x := table(t, config(200))
	var all []api.Sub
	for i := range 200 {
		all = append(all, begun(i+1, i*7%200, 600+i*31%50))
		begins(t, x, i*31%50, asked(i*7%200, 60), all[i])
	}
	for range 3 {
		holds(t, x, all...)
	}
	misses(t, x, math.MinInt, -1, 0, 201, math.MaxInt)
	for i := 0; i < 200; i += 3 {
		x.Drop(i + 1)
		misses(t, x, i+1)
	}
	left := slices.DeleteFunc(slices.Clone(all), func(s api.Sub) bool { return s.Number%3 == 1 })
	holds(t, x, left...)
	// Those that are terminated are told, too.
	x.Expire(math.MaxInt)
	for i := range left {
		left[i] = over(left[i])
	}
	holds(t, x, left...)
}
