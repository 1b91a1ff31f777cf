package subs_test

import (
	"math"
	"slices"
	"strings"
	"testing"

	"roster/addr"
	"roster/api"
	"roster/subs"
)

// model is a table as a list that is looked through, as slow as it is plain.
type model struct {
	c     api.Config
	begun int
	l     []api.Sub
}

// at tells the place of a subscription in the list, -1 of none.
func (m *model) at(number int) int {
	return slices.IndexFunc(m.l, func(s api.Sub) bool { return s.Number == number })
}

// lasts tells for how many seconds: -1 is too short.
func (m *model) lasts(asked int) int {
	n := asked
	if n < 0 {
		n = m.c.Usual
	}
	n = min(n, m.c.Most)
	if n > 0 && n < m.c.Least {
		return -1
	}
	return n
}

func outside(now int) bool { return now < 0 || now > 1<<39 }

func timed(s api.Sub, now, n int) api.Sub {
	s.Until = now + 10*n
	if n == 0 {
		s.State, s.Reason = 2, "timeout"
	}
	return s
}

// begin knows of the few wrong tags and addresses that the runs have.
func (m *model) begin(now int, r api.Request, who, watcher string, state int, tag string) (api.Sub, api.Errno) {
	n := m.lasts(r.Expires)
	local := r.To
	local.Params = append(slices.Clone(r.To.Params), with("tag", tag))
	switch {
	case outside(now), state < 0, state > 1:
		return api.Sub{}, 1
	case r.ToTag != "", r.FromTag == "", tag == "", strings.Contains(tag, " "):
		return api.Sub{}, 1
	case len(r.Contact) != 1:
		return api.Sub{}, 100
	case addr.Check(local) != 0:
		return api.Sub{}, addr.Check(local)
	case n < 0:
		return api.Sub{}, 161
	case len(m.l) == m.c.Subs:
		return api.Sub{}, 5
	}
	m.begun++
	d := api.Dialog{CallID: r.CallID, Local: local, Remote: r.From, Target: r.Contact[0].URI, Routes: r.Routes, LastIn: r.Seq}
	s := timed(api.Sub{Number: m.begun, Who: who, Watcher: watcher, Event: r.Event, State: state, Dialog: d}, now, n)
	m.l = append(m.l, s)
	return s, 0
}

func (m *model) belongs(s api.Sub, r api.Request) bool {
	return r.CallID == s.Dialog.CallID && r.ToTag == tagOf(s.Dialog.Local) && r.FromTag == tagOf(s.Dialog.Remote)
}

// tagOf tells the tag of an address that has one, as the runs' have.
func tagOf(a api.Addr) string { return a.Params[len(a.Params)-1].Value }

func (m *model) find(r api.Request) int {
	for _, s := range m.l {
		if m.belongs(s, r) {
			return s.Number
		}
	}
	return 0
}

func idOf(e api.Event) string {
	for _, p := range e.Params {
		if p.Name == "id" {
			return "=" + p.Value
		}
	}
	return ""
}

func (m *model) again(now, number int, r api.Request) (api.Sub, api.Errno) {
	if outside(now) {
		return api.Sub{}, 1
	}
	i := m.at(number)
	if i < 0 || m.l[i].State == 2 || !m.belongs(m.l[i], r) {
		return api.Sub{}, 6
	}
	s, n := m.l[i], m.lasts(r.Expires)
	switch {
	case r.Seq <= s.Dialog.LastIn:
		return api.Sub{}, 180
	case r.Event.Name != s.Event.Name, idOf(r.Event) != idOf(s.Event):
		return api.Sub{}, 81
	case n < 0:
		return api.Sub{}, 161
	}
	s.Dialog.LastIn = r.Seq
	if len(r.Contact) == 1 {
		s.Dialog.Target = r.Contact[0].URI
	}
	m.l[i] = timed(s, now, n)
	return m.l[i], 0
}

func (m *model) set(number, state int, reason string) api.Errno {
	i := m.at(number)
	if i < 0 || m.l[i].State == 2 {
		return 6
	}
	if state < 0 || state > 2 {
		return 1
	}
	m.l[i].State, m.l[i].Reason = state, reason
	return 0
}

func (m *model) sent(number, out int) api.Errno {
	i := m.at(number)
	if i < 0 {
		return 6
	}
	if out <= m.l[i].Dialog.LastOut || out > 2147483647 {
		return 180
	}
	m.l[i].Dialog.LastOut = out
	return 0
}

func (m *model) drop(number int) bool {
	i := m.at(number)
	if i >= 0 {
		m.l = slices.Delete(m.l, i, i+1)
	}
	return i >= 0
}

func (m *model) expire(now int) []int {
	var l []int
	for i, s := range m.l {
		if s.State != 2 && s.Until <= now {
			m.l[i] = over(s)
			l = append(l, s.Number)
		}
	}
	return l
}

// both are a table and its model, which are asked the same.
type both struct {
	x *subs.Table
	m *model
	// came counts the answers of Begin, and of Again.
	came, went map[api.Errno]int
}

func pair(t *testing.T, c api.Config) both {
	t.Helper()
	return both{table(t, c), &model{c: c}, map[api.Errno]int{}, map[api.Errno]int{}}
}

func (b both) begin(t *testing.T, now int, r api.Request, who, watcher string, state int, tag string) {
	t.Helper()
	want, fault := b.m.begin(now, r, who, watcher, state, tag)
	if got, err := b.x.Begin(now, r, who, watcher, state, tag); err != fault || !alike(got, want) {
		t.Errorf("Begin(%d, %s, %d, %q) = %s, %d, not %s, %d", now, shown(r), state, tag, shown(got), err, shown(want), fault)
	}
	b.came[fault]++
}

func (b both) again(t *testing.T, now, number int, r api.Request) {
	t.Helper()
	want, fault := b.m.again(now, number, r)
	if got, err := b.x.Again(now, number, r); err != fault || !alike(got, want) {
		t.Errorf("Again(%d, %d, %s) = %s, %d, not %s, %d", now, number, shown(r), shown(got), err, shown(want), fault)
	}
	b.went[fault]++
}

// look holds all against each other that can be asked without a change.
func (b both) look(t *testing.T) {
	t.Helper()
	holds(t, b.x, b.m.l...)
	misses(t, b.x, 0, b.m.begun+1)
	if len(b.x.All()) > b.m.c.Subs {
		t.Errorf("there are %d", len(b.x.All()))
	}
	if t.Failed() {
		t.FailNow()
	}
}

// draws are numbers that look chosen by chance but are the same each time.
type draws uint64

func (d *draws) below(n int) int {
	*d = *d*6364136223846793005 + 1442695040888963407
	return int(uint64(*d)>>33) % n
}

// pick picks one of a list.
func pick[T any](d *draws, l ...T) T { return l[d.below(len(l))] }

// seldom tells true once in so many times.
func (d *draws) seldom(n int) bool { return d.below(n) == 0 }

func (d *draws) seconds() int {
	return pick(d, -1, 0, 1, 59, 60, 60, 61, 61, 100, 100, 600, 3600, 3601, math.MinInt, math.MaxInt)
}

func (d *draws) event() api.Event {
	return pick(d, event("e"), event("e"), event("e"), event("e"), event(""), api.Event{Name: "presence"}, api.Event{Name: "presence.winfo"})
}

// fresh picks a request that begins one.
func (d *draws) fresh() api.Request {
	r := asked(d.below(5), d.seconds())
	r.Seq, r.Event = d.below(9), d.event()
	if d.seldom(3) {
		r.Contact, r.Routes, r.To = []api.Addr{place("sip:n@m")}, nil, place("sip:o@p")
	}
	if d.seldom(3) {
		r.From, r.FromTag = place("sip:q@r;tag=2"), "2"
	}
	switch d.below(60) {
	case 0:
		r.ToTag = "x"
	case 1:
		r.FromTag = ""
	case 2:
		r.Contact = pick(d, nil, slices.Repeat(r.Contact, 2))
	case 3:
		r.To = pick(d, api.Addr{}, place("sip:a@b;tag=1"), api.Addr{URI: r.To.URI, Params: counted(16)})
	}
	return r
}

// later picks a further request, mostly of one that is there.
func (d *draws) later(m *model) (int, api.Request) {
	number, r := d.below(m.begun+3)-1, inside(d.below(5), d.below(30), d.seconds())
	if len(m.l) > 0 && !d.seldom(8) {
		s := m.l[d.below(len(m.l))]
		r.CallID, r.FromTag, r.ToTag = s.Dialog.CallID, tagOf(s.Dialog.Remote), tagOf(s.Dialog.Local)
		r.Event, number = s.Event, s.Number
		r.Seq = s.Dialog.LastIn + pick(d, 1, 1, 1, 2, 5, 0, -1)
	}
	if d.seldom(6) {
		r.Event = d.event()
	}
	if d.seldom(3) {
		r.Contact = pick(d, nil, []api.Addr{place("sip:n@m"), place("sip:n@m")}, []api.Addr{place("sip:n@k;x")})
	}
	switch d.below(40) {
	case 0:
		r.ToTag = ""
	case 1:
		r.CallID = "c9"
	case 2:
		number++
	}
	return number, r
}

// step does one thing to both.
func (b both) step(t *testing.T, d *draws, now int) {
	t.Helper()
	at := now
	if d.seldom(30) {
		at = pick(d, -1, 1<<39+1, math.MinInt, math.MaxInt, 1<<39)
	}
	number := d.below(b.m.begun+3) - 1
	if len(b.m.l) > 0 && !d.seldom(6) {
		number = b.m.l[d.below(len(b.m.l))].Number
	}
	switch d.below(12) {
	case 0, 1, 2:
		b.begin(t, at, d.fresh(), pick(d, "a@b", "c@d"), pick(d, "e@f", ""), pick(d, 0, 1, 1, 0, 1, 0, 2, -1), pick(d, "x", "x", "y", "y", "x", "a b", ""))
	case 3, 4, 5:
		number, r := d.later(b.m)
		b.again(t, at, number, r)
	case 6:
		state, reason := pick(d, 0, 1, 0, 1, 2, -1, 3), pick(d, "", "x", "rejected")
		if got, want := b.x.Set(number, state, reason), b.m.set(number, state, reason); got != want {
			t.Errorf("Set(%d, %d) = %d, not %d", number, state, got, want)
		}
	case 7:
		out := pick(d, 1, 2, 3, 9, 0, -1, 1<<31-1, 1<<31)
		if got, want := b.x.Sent(number, out), b.m.sent(number, out); got != want {
			t.Errorf("Sent(%d, %d) = %d, not %d", number, out, got, want)
		}
	case 8:
		if got, want := b.x.Drop(number), b.m.drop(number); got != want {
			t.Errorf("Drop(%d) = %t", number, got)
		}
	case 9, 10:
		when := pick(d, now, now, now, now-1, -1)
		expires(t, b.x, when, b.m.expire(when)...)
	default:
		_, r := d.later(b.m)
		finds(t, b.x, r, b.m.find(r))
	}
}

func TestP19_6LongRuns(t *testing.T) {
	came, went := map[api.Errno]int{}, map[api.Errno]int{}
	for _, x := range []struct{ subs, steps, forward int }{{1, 6000, 100}, {2, 6000, 60}, {5, 6000, 30}, {30, 3000, 9}} {
		d, b, now := draws(x.subs), pair(t, config(x.subs)), 0
		for range x.steps {
			now += d.below(x.forward)
			b.step(t, &d, now)
			b.look(t)
		}
		expires(t, b.x, math.MaxInt, b.m.expire(math.MaxInt)...)
		b.look(t)
		for err, n := range b.came {
			came[err] += n
		}
		for err, n := range b.went {
			went[err] += n
		}
	}
	for _, err := range []api.Errno{0, 1, 4, 5, 30, 34, 100, 161} {
		if came[err] < 5 {
			t.Errorf("Begin answered %d only %d times: %v", err, came[err], came)
		}
	}
	for _, err := range []api.Errno{0, 1, 6, 81, 161, 180} {
		if went[err] < 50 {
			t.Errorf("Again answered %d only %d times: %v", err, went[err], went)
		}
	}
}

func TestP19_6FullTable(t *testing.T) {
	d, b, now, full := draws(7), pair(t, config(200)), 0, 0
	for i := range 8000 {
		now += d.below(3)
		switch {
		case len(b.m.l) < 200 && d.below(3) > 0:
			b.begin(t, now, d.fresh(), "a@b", "c@d", 1, "x")
		case d.seldom(9):
			n := b.m.l[d.below(len(b.m.l))].Number
			b.x.Drop(n)
			b.m.drop(n)
		default:
			b.step(t, &d, now)
		}
		if len(b.m.l) == 200 {
			full++
		}
		if i%50 == 0 {
			b.look(t)
		}
	}
	b.look(t)
	if full < 1000 || b.came[5] < 100 {
		t.Errorf("full %d times, %v", full, b.came)
	}
}

// TestP19_6AllShortRuns goes through all runs of a few things that may be done.
func TestP19_6AllShortRuns(t *testing.T) {
	things := []func(b both){
		func(b both) { b.begin(t, 0, asked(1, 60), "a@b", "c@d", 1, "x") },
		func(b both) { b.begin(t, 100, asked(1, 0), "a@b", "c@d", 0, "x") },
		func(b both) { b.begin(t, 100, asked(2, -1), "a@b", "c@d", 0, "x") },
		func(b both) { b.again(t, 50, 1, inside(1, 8, 60)) },
		func(b both) { b.again(t, 60, 1, inside(1, 9, 0)) },
		func(b both) { b.again(t, 300, 2, inside(1, 9, 70)) },
		func(b both) { b.x.Set(1, 2, "x"); b.m.set(1, 2, "x") },
		func(b both) { b.x.Set(2, 1, "y"); b.m.set(2, 1, "y") },
		func(b both) { b.x.Sent(1, 1); b.m.sent(1, 1) },
		func(b both) { b.x.Drop(1); b.m.drop(1) },
		func(b both) { expires(t, b.x, 600, b.m.expire(600)...) },
		func(b both) { expires(t, b.x, 650, b.m.expire(650)...) },
	}
	for size := 1; size <= 2; size++ {
		runs := 1
		for length := 1; length <= 4; length++ {
			runs *= len(things)
			if length == 4 && size == 1 {
				continue
			}
			for run := range runs {
				b := pair(t, config(size))
				for n, left := run, length; left > 0; left-- {
					things[n%len(things)](b)
					n /= len(things)
				}
				finds(t, b.x, inside(1, 8, 60), b.m.find(inside(1, 8, 60)))
				expires(t, b.x, 1000, b.m.expire(1000)...)
				b.look(t)
			}
		}
	}
}
