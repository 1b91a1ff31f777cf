package pub

import (
	"strings"

	"roster/api"
	"roster/pidf"
	"roster/scan"
)

// Ask is what is asked: for whom, of which publication, for how many seconds
// (below 0: nothing is told), with which document (Has), and which tag comes
// next.
type Ask struct {
	Who     string
	Match   string
	Expires int
	Has     bool
	Doc     api.Doc
	Tag     string
}

// Told is what is answered.
type Told struct {
	Status  int
	Expires int
	Tag     string
	Changed bool
}

// The answers.
const (
	done     = 200
	wrong    = 400
	unknown  = 412
	tooBrief = 423
	noRoom   = 503
)

// Do does what is asked.
func (s *Store) Do(now int, a Ask) (Told, api.Errno) {
	if !s.made() {
		return Told{}, api.ErrNil
	}
	if now < 0 || now > api.MaxTick/2 || !s.tagMayBe(a.Tag) || a.Has && pidf.Check(a.Doc) != api.OK {
		return Told{}, api.ErrArg
	}
	if a.Match == "" {
		return s.begin(now, a), api.OK
	}
	return s.change(now, a), api.OK
}

// tagMayBe tells whether a tag may come next.
func (s *Store) tagMayBe(tag string) bool {
	_, lives := s.numbers[tag]
	return !lives && scan.Token(tag)
}

// begin answers who asks for a publication that is not there yet.
func (s *Store) begin(now int, a Ask) Told {
	n, ok := Seconds(s.limits, a.Expires)
	switch {
	case !ok:
		return s.brief()
	case !a.Has || n == 0:
		return Told{Status: wrong}
	case s.Len() >= s.limits.Pubs:
		return Told{Status: noRoom}
	}
	s.begun++
	s.keep(now, n, a.Tag, api.Pub{Number: s.begun, Who: strings.Clone(a.Who), Doc: copyDoc(a.Doc)})
	return Told{Status: done, Expires: n, Tag: strings.Clone(a.Tag), Changed: true}
}

// change answers who asks for a publication that should be there.
func (s *Store) change(now int, a Ask) Told {
	p, ok := s.find(a.Who, a.Match)
	if !ok {
		return Told{Status: unknown}
	}
	n, ok := Seconds(s.limits, a.Expires)
	switch {
	case !ok:
		return s.brief()
	case n == 0 && a.Has:
		return Told{Status: wrong}
	case n == 0:
		s.end(p.Number)
		return Told{Status: done, Tag: strings.Clone(a.Tag), Changed: true}
	}
	delete(s.numbers, p.Tag)
	if a.Has {
		p.Doc = copyDoc(a.Doc)
	}
	s.keep(now, n, a.Tag, p)
	return Told{Status: done, Expires: n, Tag: strings.Clone(a.Tag), Changed: a.Has}
}

// brief is the answer that tells how long it should last at least.
func (s *Store) brief() Told {
	return Told{Status: tooBrief, Expires: s.limits.Least}
}

// find tells somebody's publication of a tag: with another's tag nobody finds
// anything.
func (s *Store) find(who, tag string) (api.Pub, bool) {
	p, ok := s.all[s.numbers[tag]]
	return p, ok && p.Who == who
}

// keep keeps a publication under a new tag, for so many seconds from now on. It
// asks for no error of the timer: its tick may be, as now is so early, and a
// store is for fewer than there may be timers.
func (s *Store) keep(now, seconds int, tag string, p api.Pub) {
	p.Tag = strings.Clone(tag)
	p.Until = now + seconds*api.Second
	s.numbers[p.Tag] = p.Number
	s.all[p.Number] = p
	s.ends.Set(p.Number, p.Until)
}
