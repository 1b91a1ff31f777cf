package subs

import (
	"slices"
	"strings"

	"roster/api"
)

// timeout is the Reason of what ended because its time was over.
const timeout = "timeout"

// kept is a subscription as a table keeps it.
type kept struct {
	api.Sub
}

// end ends a subscription whose time is over.
func (k *kept) end() {
	k.State = api.Terminated
	k.Reason = timeout
}

// last lets a subscription last for so many seconds from now on: for none, it
// is over at once.
func (k *kept) last(now, seconds int) {
	k.Until = now + seconds*api.Second
	if seconds == 0 {
		k.end()
	}
}

// time lets the timer of a subscription follow it: what is terminated has none.
// It asks for no error of the timer: its tick may be, as subscriptions go on so
// early, and a table is for fewer than there may be timers.
func (t *Table) time(k *kept) {
	if k.State == api.Terminated {
		t.ends.Stop(k.Number)
		return
	}
	t.ends.Set(k.Number, k.Until)
}

// going tells the subscription of a number, and whether there is one that goes
// on: what is terminated stays so.
func (t *Table) going(number int) (*kept, bool) {
	k, ok := t.all[number]
	return k, ok && k.State != api.Terminated
}

// Set lets a subscription go to a state.
func (t *Table) Set(number, state int, reason string) api.Errno {
	if !t.made() {
		return api.ErrNil
	}
	k, ok := t.going(number)
	if !ok {
		return api.ErrNone
	}
	if state != api.Pending && state != api.Active && state != api.Terminated {
		return api.ErrArg
	}
	k.State = state
	k.Reason = strings.Clone(reason)
	t.time(k)
	return api.OK
}

// Sent tells a subscription that its dialog went on. A terminated one is told,
// too: it may still have to say that it ended.
func (t *Table) Sent(number, out int) api.Errno {
	if !t.made() {
		return api.ErrNil
	}
	k, ok := t.all[number]
	if !ok {
		return api.ErrNone
	}
	if out <= k.Dialog.LastOut || out > api.MaxCSeq {
		return api.ErrOld
	}
	k.Dialog.LastOut = out
	return api.OK
}

// Drop takes a subscription away.
func (t *Table) Drop(number int) bool {
	if !t.made() {
		return false
	}
	_, ok := t.all[number]
	delete(t.all, number)
	t.ends.Stop(number)
	return ok
}

// Expire ends the subscriptions whose time is over, and tells them.
func (t *Table) Expire(now int) []int {
	if !t.made() {
		return nil
	}
	over := t.due(now)
	t.each(over, (*kept).end)
	return over
}

// due tells whose time is over, by rising numbers; their timers are gone then.
func (t *Table) due(now int) []int {
	var l []int
	for _, timer := range t.ends.Due(now) {
		l = append(l, timer.ID)
	}
	slices.Sort(l)
	return l
}

// each lets something happen to each subscription of these numbers.
func (t *Table) each(numbers []int, happen func(*kept)) {
	for _, number := range numbers {
		happen(t.all[number])
	}
}
