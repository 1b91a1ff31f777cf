package dialog_test

import (
	"reflect"
	"slices"
	"testing"
	"unsafe"

	"roster/api"
	"roster/dialog"
)

// apart tells whether no byte of two texts lies in one place.
func apart(a, b string) bool {
	if a == "" || b == "" {
		return true
	}
	x, y := uintptr(unsafe.Pointer(unsafe.StringData(a))), uintptr(unsafe.Pointer(unsafe.StringData(b)))
	return x+uintptr(len(a)) <= y || y+uintptr(len(b)) <= x
}

// textsOf are all texts of a value.
func textsOf(v reflect.Value) []string {
	var l []string
	switch v.Kind() {
	case reflect.String:
		l = append(l, v.String())
	case reflect.Struct:
		for i := range v.NumField() {
			l = append(l, textsOf(v.Field(i))...)
		}
	case reflect.Slice:
		for i := range v.Len() {
			l = append(l, textsOf(v.Index(i))...)
		}
	}
	return l
}

// eachApart tells whether no text of one value shares memory with one of another.
func eachApart(a, b any) bool {
	for _, s := range textsOf(reflect.ValueOf(a)) {
		for _, c := range textsOf(reflect.ValueOf(b)) {
			if !apart(s, c) {
				return false
			}
		}
	}
	return true
}

// own is a value like another one, but in memory of its own: its texts, and its
// lists, which have spare room with something in it.
func own[T any](x T) T {
	v := reflect.New(reflect.TypeOf(x)).Elem()
	v.Set(reflect.ValueOf(x))
	remake(v)
	return v.Interface().(T)
}

func remake(v reflect.Value) {
	switch v.Kind() {
	case reflect.String:
		v.SetString(string([]byte(v.String())))
	case reflect.Struct:
		for i := range v.NumField() {
			remake(v.Field(i))
		}
	case reflect.Slice:
		c := reflect.MakeSlice(v.Type(), v.Len()+2, v.Len()+4)
		reflect.Copy(c, v)
		for i := range v.Len() + 2 {
			if i >= v.Len() {
				fill(c.Index(i))
				continue
			}
			remake(c.Index(i))
		}
		v.Set(c.Slice(0, v.Len()))
	}
}

// fill puts something into a value: what stands in spare room.
func fill(v reflect.Value) {
	switch v.Kind() {
	case reflect.String:
		v.SetString("spare")
	case reflect.Struct:
		for i := range v.NumField() {
			fill(v.Field(i))
		}
	}
}

// withRoom is a value with what stands in the spare room of its lists.
func withRoom(v reflect.Value) any {
	switch v.Kind() {
	case reflect.Struct:
		var l []any
		for i := range v.NumField() {
			l = append(l, withRoom(v.Field(i)))
		}
		return l
	case reflect.Slice:
		var l []any
		for i := range v.Cap() {
			l = append(l, withRoom(v.Slice(0, v.Cap()).Index(i)))
		}
		return l
	}
	return v.Interface()
}

// unchanged tells whether two values are one, with their spare room.
func unchanged(a, b any) bool {
	return reflect.DeepEqual(withRoom(reflect.ValueOf(a)), withRoom(reflect.ValueOf(b)))
}

// spoil writes into all lists of a value, up to the end of their room.
func spoil(v reflect.Value) {
	switch v.Kind() {
	case reflect.Struct:
		for i := range v.NumField() {
			spoil(v.Field(i))
		}
	case reflect.Slice:
		for i := range v.Len() {
			spoil(v.Index(i))
		}
		all := v.Slice(0, v.Cap())
		for i := range all.Len() {
			all.Index(i).SetZero()
		}
	}
}

// wide are a request and a dialog all of whose lists have something in them.
func wide() (api.Request, api.Dialog) {
	r, d := inside(), begun()
	u := place("<sips:a%20b@d:9;lr;x=1?y=2&z=3>").URI
	r.To.URI, r.From.URI, r.From.Display, r.To.Display = u, u, "A b", "C d"
	r.To.Params, r.From.Params = []api.Param{with("p", "q")}, []api.Param{with("tag", "1"), with("r", "s")}
	r.Contact = []api.Addr{{URI: u, Params: []api.Param{bare("x")}}}
	d.Local, d.Remote, d.Target = r.To, r.From, u
	d.Local.Params = []api.Param{with("p", "q"), with("tag", "x")}
	return own(r), own(d)
}

// asksAll calls all that answer dialogs, with texts of calls in memory of their own.
func asksAll(r api.Request, d api.Dialog) []api.Dialog {
	first := r
	first.ToTag = ""
	old, other := r, r
	old.Seq, other.CallID = 0, "other"
	b, _ := dialog.Begin(first, own("tag"))
	k, _ := dialog.Take(d, r)
	o, _ := dialog.Take(d, old)
	n, _ := dialog.Take(d, other)
	_, t, _ := dialog.Notify(d, "pa.home", "z9hG4bK1", nil, "")
	_, f, _ := dialog.Notify(d, "", "z9hG4bK1", nil, "")
	_, g, _ := dialog.Notify(d, "pa.home", "z9hG4bK1", []api.Header{{}}, "")
	return []api.Dialog{b, k, o, n, t, f, g}
}

func TestRuleMemoryDialogs(t *testing.T) {
	r, d := wide()
	wasR, wasD := wide()
	one, two := asksAll(r, d), asksAll(r, d)
	for i := range one {
		if isZero(one[i]) || !alike(one[i], two[i]) {
			t.Fatalf("%d: %+v, and again %+v", i, one[i], two[i])
		}
		if !eachApart(one[i], r) || !eachApart(one[i], d) || !eachApart(one[i], two) {
			t.Errorf("%d: %+v shares texts", i, one[i])
		}
	}
	if !unchanged(r, wasR) || !unchanged(d, wasD) {
		t.Fatalf("changed: %+v, %+v", r, d)
	}
	// Whoever writes into an answer, or an argument, changes no other answer.
	for i := range one {
		spoil(reflect.ValueOf(&one[i]).Elem())
	}
	if !unchanged(r, wasR) || !unchanged(d, wasD) {
		t.Errorf("changed by way of an answer: %+v, %+v", r, d)
	}
	spoil(reflect.ValueOf(&r).Elem())
	spoil(reflect.ValueOf(&d).Elem())
	if kept := asksAll(wide()); !slices.EqualFunc(two, kept, alike) {
		t.Errorf("became %+v", two)
	}
}

// TestRuleMemoryOneAnswer asks that no two lists of one answer share memory,
// though those of what was handed in do.
func TestRuleMemoryOneAnswer(t *testing.T) {
	r, d := wide()
	shared := d.Local.Params
	r.To.Params, r.From.Params, r.Contact[0].URI.Params, r.Contact[0].URI.Headers = shared[:1], shared, shared, shared[:1]
	d.Remote.Params, d.Target.Params, d.Target.Headers = shared, shared, shared
	r.FromTag = "x"
	for i, got := range asksAll(r, d) {
		lists := [][]api.Param{got.Local.Params, got.Remote.Params, got.Target.Params, got.Target.Headers, got.Local.URI.Params, got.Local.URI.Headers, got.Remote.URI.Params, got.Remote.URI.Headers}
		for k := range lists {
			for n := range lists {
				clear(lists[n][:cap(lists[n])])
			}
			for j := range lists[k] {
				lists[k][j] = bare("mark")
			}
			for n, l := range lists {
				if len(l) == 0 || (n == k) != (l[0] == bare("mark")) {
					t.Errorf("%d: the list %d stands in the list %d: %+v", i, k, n, l)
				}
			}
		}
	}
}

func TestRuleMemoryTexts(t *testing.T) {
	_, d := wide()
	host, branch, body := own("pa.home"), own("z9hG4bK1"), own("body")
	more := own([]api.Header{{Name: "Event", Value: "presence"}})
	was, wasD := own(more), own(d)
	one, _, err := dialog.Notify(d, host, branch, more, body)
	two, _, _ := dialog.Notify(d, host, branch, more, body)
	if err != api.OK || one != two || !apart(one, two) {
		t.Errorf("%q, %d, and again %q", one, err, two)
	}
	if !eachApart(one, d) || !eachApart(one, more) || !eachApart(one, []string{host, branch, body}) {
		t.Error("a message shares memory with what was handed in")
	}
	if !unchanged(more, was) || !unchanged(d, wasD) {
		t.Errorf("changed: %+v, %+v", more, d)
	}
	at, again := dialog.Where(d), dialog.Where(d)
	d.Routes = nil
	to := dialog.Where(d)
	if at != "p:5060" || to != "d:9" || !apart(at, again) || !eachApart([]string{at, to}, d) || !eachApart([]string{at, to}, wasD) {
		t.Errorf("%q and %q share memory", at, to)
	}
}
