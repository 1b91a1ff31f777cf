package subs_test

import (
	"reflect"
	"slices"
	"testing"
	"unsafe"

	"roster/api"
	"roster/subs"
)

// apart tells whether no byte of two texts lies in one place.
func apart(a, b string) bool {
	if a == "" || b == "" {
		return true
	}
	x, y := uintptr(unsafe.Pointer(unsafe.StringData(a))), uintptr(unsafe.Pointer(unsafe.StringData(b)))
	return x+uintptr(len(a)) <= y || y+uintptr(len(b)) <= x
}

// textsOf are all texts of a value.
func textsOf(v reflect.Value) []string {
	var l []string
	switch v.Kind() {
	case reflect.String:
		l = append(l, v.String())
	case reflect.Struct:
		for i := range v.NumField() {
			l = append(l, textsOf(v.Field(i))...)
		}
	case reflect.Slice:
		for i := range v.Len() {
			l = append(l, textsOf(v.Index(i))...)
		}
	}
	return l
}

// eachApart tells whether no text of one value shares memory with one of another.
func eachApart(a, b any) bool {
	for _, s := range textsOf(reflect.ValueOf(a)) {
		for _, c := range textsOf(reflect.ValueOf(b)) {
			if !apart(s, c) {
				return false
			}
		}
	}
	return true
}

// own is a value like another one, but in memory of its own: its texts, which
// may be spoilt, and its lists, which have spare room with something in it.
func own[T any](x T) T {
	v := reflect.New(reflect.TypeOf(x)).Elem()
	v.Set(reflect.ValueOf(x))
	remake(v)
	return v.Interface().(T)
}

func remake(v reflect.Value) {
	switch v.Kind() {
	case reflect.String:
		if b := []byte(v.String()); len(b) > 0 {
			v.SetString(unsafe.String(&b[0], len(b)))
		}
	case reflect.Struct:
		for i := range v.NumField() {
			remake(v.Field(i))
		}
	case reflect.Slice:
		c := reflect.MakeSlice(v.Type(), v.Len()+2, v.Len()+4)
		reflect.Copy(c, v)
		for i := range v.Len() {
			remake(c.Index(i))
		}
		for i := v.Len(); i < v.Len()+2; i++ {
			fill(c.Index(i))
		}
		v.Set(c.Slice(0, v.Len()))
	}
}

// fill puts something into a value: what stands in spare room.
func fill(v reflect.Value) {
	switch v.Kind() {
	case reflect.String:
		v.SetString(string([]byte("spare")))
	case reflect.Struct:
		for i := range v.NumField() {
			fill(v.Field(i))
		}
	}
}

// withRoom is a value with what stands in the spare room of its lists.
func withRoom(v reflect.Value) any {
	var l []any
	switch v.Kind() {
	case reflect.Struct:
		for i := range v.NumField() {
			l = append(l, withRoom(v.Field(i)))
		}
		return l
	case reflect.Slice:
		for i := range v.Cap() {
			l = append(l, withRoom(v.Slice(0, v.Cap()).Index(i)))
		}
		return l
	}
	return v.Interface()
}

// unchanged tells whether two values are one, with their spare room.
func unchanged(a, b any) bool {
	return reflect.DeepEqual(withRoom(reflect.ValueOf(a)), withRoom(reflect.ValueOf(b)))
}

// spoil writes into all lists of a value, up to the end of their room.
func spoil(v reflect.Value) {
	switch v.Kind() {
	case reflect.Struct:
		for i := range v.NumField() {
			spoil(v.Field(i))
		}
	case reflect.Slice:
		for i := range v.Len() {
			spoil(v.Index(i))
		}
		all := v.Slice(0, v.Cap())
		for i := range all.Len() {
			all.Index(i).SetZero()
		}
	}
}

// smear writes over the bytes of all texts of a value that own made, behind
// their backs: no text of the language should see that.
func smear(v any) {
	for _, s := range textsOf(reflect.ValueOf(v)) {
		if s == "" {
			continue
		}
		for i := range len(s) {
			*(*byte)(unsafe.Add(unsafe.Pointer(unsafe.StringData(s)), i)) = '#'
		}
	}
}

// wide is a request that begins one, all of whose lists have something in them.
func wide() api.Request {
	r := asked(1, 60)
	r.CallID = "call-one"
	u := place("<sips:a%20b@d:9;lr;x=1?y=2&z=3>").URI
	r.To = api.Addr{Display: "A b", URI: u, Params: []api.Param{with("p", "q")}}
	r.From = api.Addr{Display: "C d", URI: u, Params: []api.Param{with("tag", "one"), with("r", "s")}}
	r.FromTag = "one"
	r.Contact = []api.Addr{{URI: u, Params: []api.Param{bare("x")}}}
	return own(r)
}

// wideOn is a further one of it.
func wideOn(seq int) api.Request {
	r := wide()
	r.ToTag, r.Seq, r.Contact[0].URI.User, r.Expires = own("tag-one"), seq, own("other"), 70
	return r
}

// names are what else Begin and Set are given, each time anew.
func names() (who, watcher, tag, reason string) {
	return own("who@home"), own("watcher@home"), own("tag-one"), own("reason")
}

// wideBegins begins one with all that it has.
func wideBegins(t *testing.T, x *subs.Table, r api.Request) api.Sub {
	t.Helper()
	who, watcher, tag, _ := names()
	s, err := x.Begin(0, r, who, watcher, 1, tag)
	if err != api.OK {
		t.Fatal(err)
	}
	return s
}

func TestRuleMemoryAnswers(t *testing.T) {
	x := table(t, config(3))
	first, on := wide(), wideOn(8)
	who, watcher, tag, reason := names()
	all := []any{first, on, []string{who, watcher, tag, reason}}
	hear := func(s api.Sub, err api.Errno) {
		t.Helper()
		if err != api.OK || len(s.Event.Params) == 0 || len(s.Dialog.Target.Headers) == 0 {
			t.Fatal(shown(s), err)
		}
		all = append(all, s)
	}
	hear(x.Begin(0, first, who, watcher, 1, tag))
	hear(x.Begin(0, first, who, watcher, 0, tag))
	if err := x.Set(1, 0, reason); err != api.OK {
		t.Fatal(err)
	}
	hear(x.Again(0, 1, on))
	hear(x.Again(0, 2, on))
	for range 2 {
		for _, s := range x.All() {
			hear(s, 0)
		}
		for n := range 2 {
			s, _ := x.Get(n + 1)
			hear(s, 0)
		}
	}
	for i := range all {
		for j := range i {
			if !eachApart(all[i], all[j]) {
				t.Errorf("%s and %s share memory", shown(all[i]), shown(all[j]))
			}
		}
	}
	if !unchanged(first, wide()) || !unchanged(on, wideOn(8)) {
		t.Errorf("changed: %s, %s", shown(first), shown(on))
	}
	// Two timeouts, and the texts of one.
	x.Expire(10000)
	l := x.All()
	if l[0].Reason != "timeout" || !apart(l[0].Reason, l[1].Reason) || !apart(l[0].Reason, x.All()[0].Reason) {
		t.Error("two reasons share memory")
	}
}

// Who changes what went in or came out changes nothing of what is kept.
func TestRuleMemoryLists(t *testing.T) {
	x, r := table(t, config(3)), wide()
	got := wideBegins(t, x, r)
	want := own(got)
	look := func(how string) {
		t.Helper()
		if s, _ := x.Get(1); !alike(s, want) {
			t.Errorf("%s: %s, not %s", how, shown(s), shown(want))
		}
	}
	spoil(reflect.ValueOf(&r).Elem())
	look("what Begin was given")
	spoil(reflect.ValueOf(&got).Elem())
	look("what Begin answered")
	got, _ = x.Get(1)
	spoil(reflect.ValueOf(&got).Elem())
	look("what Get answered")
	l := x.All()
	spoil(reflect.ValueOf(&l).Elem())
	look("what All answered")
	r = wideOn(8)
	got, err := x.Again(0, 1, r)
	if err != api.OK {
		t.Fatal(err)
	}
	want = own(got)
	spoil(reflect.ValueOf(&r).Elem())
	look("what Again was given")
	spoil(reflect.ValueOf(&got).Elem())
	look("what Again answered")
	// What came out earlier stays as it is, too.
	early, _ := x.Get(1)
	if _, err := x.Again(9, 1, wideOn(9)); err != api.OK {
		t.Fatal(err)
	}
	if !alike(early, want) {
		t.Errorf("an answer became %s", shown(early))
	}
	over := x.Expire(9000)
	clear(over[:cap(over)])
	if s, _ := x.Get(1); s.Number != 1 || s.State != 2 {
		t.Errorf("%s", shown(s))
	}
}

// No two lists of one answer share memory, though those of what was handed in do.
func TestRuleMemoryOneAnswer(t *testing.T) {
	x, r := table(t, config(9)), wide()
	shared := r.From.Params
	r.To.Params, r.Contact[0].URI.Params, r.Contact[0].URI.Headers, r.Event.Params = shared[1:], shared, shared, shared
	on := wideOn(8)
	on.Contact[0].URI.Params, on.Contact[0].URI.Headers, on.Event.Params = shared, shared, shared
	first := wideBegins(t, x, r)
	second, err := x.Again(0, 1, on)
	third, _ := x.Get(1)
	if err != api.OK {
		t.Fatal(err)
	}
	for i, s := range []api.Sub{first, second, third, x.All()[0]} {
		d := s.Dialog
		lists := [][]api.Param{s.Event.Params, d.Local.Params, d.Local.URI.Params, d.Local.URI.Headers, d.Remote.Params, d.Remote.URI.Params, d.Remote.URI.Headers, d.Target.Params, d.Target.Headers}
		for k := range lists {
			for n := range lists {
				clear(lists[n][:cap(lists[n])])
			}
			for j := range lists[k] {
				lists[k][j] = bare("mark")
			}
			for n, l := range lists {
				if len(l) == 0 || (n == k) != (l[0] == bare("mark")) {
					t.Errorf("%d: the list %d stands in the list %d", i, k, n)
				}
			}
		}
	}
}

// TestRuleMemoryNothingKept writes over the bytes of all texts that went in.
func TestRuleMemoryNothingKept(t *testing.T) {
	c := own(config(3))
	x, err := subs.New(c)
	if err != api.OK {
		t.Fatal(err)
	}
	first, on := wide(), wideOn(8)
	who, watcher, tag, reason := names()
	given := []string{who, watcher, tag, reason}
	s, _ := x.Begin(0, first, who, watcher, 1, tag)
	y, err := x.Again(0, 1, on)
	if err != api.OK || x.Set(1, 0, reason) != api.OK {
		t.Fatal(err)
	}
	wantFirst, wantOn := own(s), own(y)
	wantOn.State, wantOn.Reason = 0, "reason"
	for _, v := range []any{c, first, on, given} {
		smear(v)
	}
	if got, _ := x.Get(1); !alike(got, wantOn) || !alike(s, wantFirst) {
		t.Errorf("%s and %s, not %s and %s", shown(got), shown(s), shown(wantOn), shown(wantFirst))
	}
	finds(t, x, wideOn(9), 1)
	if z, err := x.Again(0, 1, wideOn(9)); err != api.OK || z.Dialog.LastIn != 9 {
		t.Errorf("%s, %d", shown(z), err)
	}
	if l := x.Expire(9000); !slices.Equal(l, []int{1}) {
		t.Errorf("%v", l)
	}
}

// What is asked in vain is neither changed nor kept.
func TestRuleMemoryInVain(t *testing.T) {
	x := table(t, config(1))
	begins(t, x, 0, asked(1, 60), begun(1, 1, 600))
	who, watcher, tag, _ := names()
	r, on := wide(), wideOn(8)
	if _, err := x.Begin(0, r, who, watcher, 1, tag); err != api.ErrFull {
		t.Fatal(err)
	}
	denies(t, x, 0, 1, on, api.ErrNone)
	finds(t, x, on, 0)
	if !unchanged(r, wide()) || !unchanged(on, wideOn(8)) {
		t.Errorf("changed: %s, %s", shown(r), shown(on))
	}
	smear(r)
	smear(on)
	holds(t, x, begun(1, 1, 600))
}
