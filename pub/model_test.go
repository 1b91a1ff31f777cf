package pub_test

import (
	"math"
	"slices"
	"testing"

	"roster/api"
	"roster/pub"
)

// model is a store as a list that is looked through, as slow as it is plain. Its documents may be, or are empty.
type model struct {
	c     api.Config
	begun int
	l     []api.Pub
}

func (m *model) at(match func(api.Pub) bool) int { return slices.IndexFunc(m.l, match) }

// isToken holds for the few tags that the runs have.
func isToken(s string) bool { return s != "" && s != "no token" }

func (m *model) do(now int, a pub.Ask) (pub.Told, api.Errno) {
	taken := m.at(func(p api.Pub) bool { return p.Tag == a.Tag }) >= 0
	if now < 0 || now > 1<<39 || !isToken(a.Tag) || taken || a.Has && a.Doc.Entity == "" {
		return pub.Told{}, 1
	}
	n := a.Expires
	if n < 0 {
		n = m.c.Usual
	}
	n = min(n, m.c.Most)
	short := n > 0 && n < m.c.Least
	i := m.at(func(p api.Pub) bool { return p.Who == a.Who && p.Tag == a.Match })
	if a.Match != "" && i < 0 {
		return pub.Told{Status: 412}, 0
	}
	if short {
		return pub.Told{Status: 423, Expires: m.c.Least}, 0
	}
	if n == 0 && (a.Match == "" || a.Has) || a.Match == "" && !a.Has {
		return pub.Told{Status: 400}, 0
	}
	if a.Match == "" && len(m.l) == m.c.Pubs {
		return pub.Told{Status: 503}, 0
	}
	told := pub.Told{Status: 200, Expires: n, Tag: a.Tag, Changed: a.Has || n == 0}
	switch {
	case a.Match == "":
		m.begun++
		m.l = append(m.l, api.Pub{Number: m.begun, Who: a.Who, Tag: a.Tag, Until: now + 10*n, Doc: a.Doc})
	case n == 0:
		m.l = slices.Delete(m.l, i, i+1)
	default:
		m.l[i].Tag, m.l[i].Until = a.Tag, now+10*n
		if a.Has {
			m.l[i].Doc = a.Doc
		}
	}
	return told, 0
}

func (m *model) expire(now int) []string {
	var whose []string
	var left []api.Pub
	for _, p := range m.l {
		if p.Until > now {
			left = append(left, p)
		} else if !slices.Contains(whose, p.Who) {
			whose = append(whose, p.Who)
		}
	}
	m.l = left
	slices.Sort(whose)
	return whose
}

// live are somebody's: the list stands in order all the time.
func (m *model) live(who string) []api.Pub {
	var l []api.Pub
	for _, p := range m.l {
		if p.Who == who {
			l = append(l, p)
		}
	}
	return l
}

// both are a store and its model, which are asked the same.
type both struct {
	s *pub.Store
	m *model
}

func pair(t *testing.T, c api.Config) both {
	t.Helper()
	return both{store(t, c), &model{c: c}}
}

func (b both) do(t *testing.T, now int, a pub.Ask) {
	t.Helper()
	want, fault := b.m.do(now, a)
	if told, err := b.s.Do(now, a); told != want || err != fault {
		t.Errorf("Do(%d, %v) = %v, %d, not %v, %d", now, a, told, err, want, fault)
	}
}

func (b both) expire(t *testing.T, now int) {
	t.Helper()
	expires(t, b.s, now, b.m.expire(now)...)
}

// look holds all against each other that can be asked without a change.
func (b both) look(t *testing.T, whose []string) {
	t.Helper()
	holds(t, b.s, len(b.m.l))
	for _, who := range whose {
		lives(t, b.s, who, b.m.live(who)...)
	}
	if t.Failed() {
		t.FailNow()
	}
}

// asks are what the short runs ask for: what begins, lives on, changes and ends, and what is wrong.
func asks() []pub.Ask {
	return []pub.Ask{
		{Who: "a", Expires: -1, Has: true, Doc: notes("1"), Tag: "x"},
		{Who: "a", Expires: 2, Has: true, Doc: notes("2"), Tag: "y"},
		{Who: "c", Expires: 9, Has: true, Doc: notes("3"), Tag: "y"},
		{Who: "c", Expires: 1, Has: true, Doc: notes("4"), Tag: "z"},
		{Who: "a", Expires: 2, Doc: notes("5"), Tag: "z"},
		{Who: "a", Match: "x", Expires: 2, Tag: "y"},
		{Who: "a", Match: "x", Expires: 9, Has: true, Doc: notes("6"), Tag: "z"},
		{Who: "a", Match: "y", Expires: -1, Has: true, Doc: notes("7"), Tag: "x"},
		{Who: "c", Match: "y", Expires: 3, Tag: "x"},
		{Who: "c", Match: "z", Expires: 2, Tag: "y"},
		{Who: "a", Match: "x", Expires: 0, Tag: "z"},
		{Who: "a", Match: "y", Expires: 0, Tag: "x"},
		{Who: "c", Match: "y", Expires: 0, Has: true, Doc: notes("8"), Tag: "z"},
		{Who: "a", Match: "x", Expires: 1, Tag: "w"},
	}
}

// moments are the ticks of those runs: two to ask at, three to end at.
var moments = []int{0, 9, 20, 29, 40}

func TestP16_5AllShortRuns(t *testing.T) {
	list := asks()
	steps := 2*len(list) + 3
	for pubs := 1; pubs <= 2; pubs++ {
		c := api.Config{Calls: 1, Pubs: pubs, Subs: 1, Least: 2, Usual: 3, Most: 4}
		runs := 1
		for length := 1; length <= 3; length++ {
			runs *= steps
			for run := range runs {
				b := pair(t, c)
				for n, left := run, length; left > 0; left-- {
					if step := n % steps; step < 2*len(list) {
						b.do(t, moments[step%2], list[step/2])
					} else {
						b.expire(t, moments[2+step-2*len(list)])
					}
					n /= steps
				}
				b.look(t, []string{"a", "c"})
				b.expire(t, 30)
				b.expire(t, 49)
				b.look(t, []string{"a", "c"})
			}
		}
	}
}

// draws are numbers that look chosen by chance but are the same each time.
type draws uint64

func (d *draws) below(n int) int {
	*d = *d*6364136223846793005 + 1442695040888963407
	return int(uint64(*d)>>33) % n
}

// pick picks one of a list.
func pick[T any](d *draws, l ...T) T { return l[d.below(len(l))] }

// tag picks a tag: mostly that of one that lives.
func (d *draws) tag(m *model, names int) string {
	if len(m.l) > 0 && d.below(4) > 0 {
		return m.l[d.below(len(m.l))].Tag
	}
	return name(d.below(names))
}

// ask picks what is asked.
func (d *draws) ask(m *model, whose []string, names int) pub.Ask {
	a := pub.Ask{Who: pick(d, whose...), Tag: name(d.below(names)), Expires: pick(d, -1, 0, 1, 59, 60, 61, 100, 600, 3600, 3601, 9999, math.MinInt, math.MaxInt)}
	if d.below(3) > 0 {
		a.Match = d.tag(m, names)
		if i := m.at(func(p api.Pub) bool { return p.Tag == a.Match }); i >= 0 && d.below(8) > 0 {
			a.Who = m.l[i].Who
		}
	}
	if d.below(3) > 0 {
		a.Has, a.Doc = true, pick(d, notes(), notes("n", name(d.below(9))), full(name(d.below(9))))
	}
	switch d.below(40) {
	case 0:
		a.Tag = pick(d, "", "no token")
	case 1:
		a.Tag = d.tag(m, names)
	case 2:
		a.Doc = api.Doc{}
	}
	return a
}

func TestP16_5LongRuns(t *testing.T) {
	whose := []string{"a@b", "c@d", "", "e@f", "A@b"}
	for _, x := range []struct{ pubs, names, forward int }{{1, 4, 9000}, {2, 10, 900}, {20, 100, 500}, {200, 1000, 30}} {
		d := draws(x.pubs)
		b := pair(t, config(x.pubs))
		now := 0
		for range 4000 {
			switch n := d.below(20); {
			case n < 15:
				b.do(t, max(now+d.below(50)-5, 0), d.ask(b.m, whose, x.names))
			case n < 18:
				now += d.below(x.forward)
				b.expire(t, now)
			case n == 18:
				b.do(t, pick(&d, -1, 1<<39+1, math.MinInt, math.MaxInt), d.ask(b.m, whose, x.names))
			default:
				b.expire(t, now+d.below(2000)-1900)
			}
			b.look(t, whose[:1+d.below(2)])
		}
		b.look(t, whose)
		b.expire(t, math.MaxInt)
		b.look(t, whose)
		holds(t, b.s, 0)
	}
}

func TestP16_5RunsOfAFullStore(t *testing.T) {
	whose := []string{"a@b", "c@d", "e@f"}
	d := draws(9)
	b := pair(t, config(200))
	most, now := 0, 0
	for range 6000 {
		if d.below(10) == 0 {
			now += d.below(20)
			b.expire(t, now)
		} else if d.below(2) == 0 {
			b.do(t, now, fresh(pick(&d, whose...), name(d.below(2000)), 60+d.below(9000)))
		} else {
			b.do(t, now, d.ask(b.m, whose, 2000))
		}
		if b.s.Len() == 200 {
			most++
		}
		if t.Failed() {
			t.FailNow()
		}
	}
	b.look(t, whose)
	if most < 1000 {
		t.Errorf("full %d times only", most)
	}
}
