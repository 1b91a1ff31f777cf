package addr_test

import (
	"slices"
	"strings"
	"testing"

	"roster/addr"
	"roster/api"
	"roster/scan"
	"roster/uri"
)

func TestP5_1Fields(t *testing.T) {
	for _, x := range []struct {
		parts []string
		want  []api.Param
	}{
		{nil, nil},
		{[]string{}, nil},
		{[]string{"lr"}, list(bare("lr"))},
		{[]string{" lr\t"}, list(bare("lr"))},
		{[]string{"tag=1"}, list(with("tag", "1"))},
		{[]string{" Tag \t= aB "}, list(with("Tag", "aB"))},
		{[]string{"b", "a=1", "c"}, list(bare("b"), with("a", "1"), bare("c"))},
		{[]string{`x=""`}, list(with("x", ""))},
		{[]string{"x = \t\"a;b\"\t"}, list(with("x", "a;b"))},
		{[]string{`x=" a "`}, list(with("x", " a "))},
		{[]string{`x="a\"\\b\c"`}, list(with("x", `a"\bc`))},
		{[]string{`x="a=b"`}, list(with("x", "a=b"))},
		{[]string{`x="1"`, "y=1"}, list(with("x", "1"), with("y", "1"))},
		{[]string{"x=[::1]"}, list(with("x", "[::1]"))},
		{[]string{"x=[::A.B]"}, list(with("x", "[::A.B]"))},
		{[]string{"x=A.b.C"}, list(with("x", "A.b.C"))},
		{[]string{"x=-._"}, list(with("x", "-._"))},
		{[]string{"%41=%zz"}, list(with("%41", "%zz"))},
		{[]string{"x=1", "xx=1", "y=X"}, list(with("x", "1"), with("xx", "1"), with("y", "X"))},
		{[]string{long(64) + "=" + long(64)}, list(with(long(64), long(64)))},
		{[]string{`x="` + long(64) + `"`}, list(with("x", long(64)))},
		{[]string{`x="` + strings.Repeat(`\"`, 64) + `"`}, list(with("x", strings.Repeat(`"`, 64)))},
		{[]string{"x=[" + strings.Repeat(":", 62) + "]"}, list(with("x", "["+strings.Repeat(":", 62)+"]"))},
	} {
		if got, err := addr.Fields(x.parts); err != api.OK || !slices.Equal(got, x.want) {
			t.Errorf("Fields(%q) = %+v, %d", x.parts, got, err)
		}
	}
}

func TestP5_1FieldsWrong(t *testing.T) {
	for _, parts := range [][]string{
		{""}, {" "}, {"=1"}, {" =1"}, {"="}, {"a b"}, {"a b=1"}, {"a/b"}, {"a\xff"}, {"é=1"}, {`"a"=1`}, {`"a"`}, {"[::1]=1"},
		{"x="}, {"x= \t"}, {"x==1"}, {"x=1=2"}, {"x=a b"}, {"x=a/b"}, {"x=é"}, {"x=\n"}, {"x=1\r"}, {"x=<a>"}, {"x=1;y"},
		{"x=[::1"}, {"x=[:]"}, {"x=[::g]"}, {"x=::1"}, {"x=[::1]:5"}, {"x=[::1] a"},
		{`x="`}, {`x="a`}, {`x=a"`}, {`x="a"b`}, {`x="a" b`}, {`x="a"b"`}, {`x="a\"`}, {`x="\`}, {"x=\"\\\n\""}, {"x=\"a\nb\""}, {"x=\"\x01\""}, {"x=\"\\\xff\""},
		{long(65)}, {long(65) + "=1"}, {"x=" + long(65)}, {`x="` + long(65) + `"`}, {"x=[" + strings.Repeat(":", 63) + "]"},
		{"a", "a"}, {"a", "A"}, {"tag=1", "lr", "TAG=2"}, {"a=1", "a"}, {"a", `A="1"`},
		{"a", "b", ""}, {"", "b"}, {"a", "b=", "c"},
	} {
		if got, err := addr.Fields(parts); err != api.ErrParam || len(got) != 0 {
			t.Errorf("Fields(%q) = %+v, %d", parts, got, err)
		}
	}
}

func TestP5_1FieldsMany(t *testing.T) {
	var parts []string
	for _, p := range counted(16) {
		parts = append(parts, p.Name)
	}
	if got, err := addr.Fields(parts); err != api.OK || !slices.Equal(got, counted(16)) {
		t.Errorf("16 parts: %+v, %d", got, err)
	}
	for _, more := range []string{"y", "", "p0", "x=\""} {
		if got, err := addr.Fields(append(slices.Clone(parts), more)); err != api.ErrMany || len(got) != 0 {
			t.Errorf("16 parts and %q: %+v, %d", more, got, err)
		}
	}
	if got, err := addr.Fields(make([]string, 17)); err != api.ErrMany || len(got) != 0 {
		t.Errorf("17 empty parts: %+v, %d", got, err)
	}
}

func TestP5_1FieldsBytes(t *testing.T) {
	for i := range 256 {
		c := string([]byte{byte(i)})
		token := scan.Class(byte(i))&scan.Tokens != 0
		// A = cuts, so what stands behind it is not of the name.
		if _, err := addr.Fields([]string{"a" + c + "a"}); (err == api.OK) != (token || c == "=") {
			t.Errorf("a name with the byte %d: %d", i, err)
		}
		if _, err := addr.Fields([]string{"x=a" + c + "a"}); (err == api.OK) != token {
			t.Errorf("a value with the byte %d: %d", i, err)
		}
		_, none := scan.Unquote(`"a` + c + `a"`)
		got, err := addr.Fields([]string{`x="a` + c + `a"`})
		if (err == api.OK) != (none == api.OK) || err == api.OK && c != `\` && !slices.Equal(got, list(with("x", "a"+c+"a"))) {
			t.Errorf("a quoted value with the byte %d: %+v, %d", i, got, err)
		}
		got, err = addr.Fields([]string{`x="\` + c + `"`})
		barred := i == 0 || i == '\n' || i == '\r' || i > 127
		if (err == api.ErrParam) != barred || err == api.OK && !slices.Equal(got, list(with("x", c))) {
			t.Errorf("a quoted value with the byte %d behind a backslash: %+v, %d", i, got, err)
		}
	}
}

func TestP5_2Text(t *testing.T) {
	for _, x := range []struct {
		l    []api.Param
		want string
	}{
		{nil, ""},
		{[]api.Param{}, ""},
		{list(bare("lr")), ";lr"},
		{list(with("tag", "1")), ";tag=1"},
		{list(with("Tag", "aB"), bare("lr"), with("x", "a.b")), ";Tag=aB;lr;x=a.b"},
		{list(with("x", "")), `;x=""`},
		{list(with("x", " ")), `;x=" "`},
		{list(with("x", "a b")), `;x="a b"`},
		{list(with("x", `a"b\`)), `;x="a\"b\\"`},
		{list(with("x", `"a"`)), `;x="\"a\""`},
		{list(with("x", "[::A]")), ";x=[::A]"},
		{list(with("x", "[::G]")), `;x="[::G]"`},
		{list(with("x", "[::1]:1")), `;x="[::1]:1"`},
		{list(with("x", "a;b"), with("y", "a=b")), `;x="a;b";y="a=b"`},
		{list(with("x", "\x01\t\x7f\xff")), ";x=\"\\\x01\t\\\x7f\xff\""},
		{list(with(long(64), long(64))), ";" + long(64) + "=" + long(64)},
		{list(with("x", strings.Repeat(" ", 64))), `;x="` + strings.Repeat(" ", 64) + `"`},
		{list(with("x", "a"), with("xx", "a"), bare("y")), ";x=a;xx=a;y"},
	} {
		if got, err := addr.Text(x.l); got != x.want || err != api.OK {
			t.Errorf("Text(%+v) = %q, %d", x.l, got, err)
		}
	}
	if got, err := addr.Text(counted(16)); got != ";p0;p1;p2;p3;p4;p5;p6;p7;p8;p9;p10;p11;p12;p13;p14;p15" || err != api.OK {
		t.Errorf("Text of 16 = %q, %d", got, err)
	}
}

func TestP5_2TextWrong(t *testing.T) {
	for _, x := range []struct {
		l   []api.Param
		err api.Errno
	}{
		{counted(17), api.ErrMany},
		{append(counted(16), bare("p0")), api.ErrMany},
		{make([]api.Param, 17), api.ErrMany},
		{make([]api.Param, 16), api.ErrParam},
		{list(bare("")), api.ErrParam},
		{list(with("", "1")), api.ErrParam},
		{list(bare("a b")), api.ErrParam},
		{list(bare("a;b")), api.ErrParam},
		{list(bare("[::1]")), api.ErrParam},
		{list(bare("é")), api.ErrParam},
		{list(bare(long(65))), api.ErrParam},
		{list(with("x", long(65))), api.ErrParam},
		{list(with("x", strings.Repeat(" ", 65))), api.ErrParam},
		{list(with("x", "a\nb")), api.ErrParam},
		{list(with("x", "\r")), api.ErrParam},
		{list(with("x", "\x00")), api.ErrParam},
		{list(api.Param{Name: "x", Value: "1"}), api.ErrParam},
		{list(bare("a"), bare("a")), api.ErrParam},
		{list(with("tag", "1"), bare("lr"), with("TAG", "2")), api.ErrParam},
		{list(bare("a"), bare("b"), with("c", "\n"), bare("d")), api.ErrParam},
	} {
		if got, err := addr.Text(x.l); got != "" || err != x.err {
			t.Errorf("Text(%+v) = %q, %d, not %d", x.l, got, err, x.err)
		}
	}
}

func TestP5_2TextBytes(t *testing.T) {
	for i := range 256 {
		c := string([]byte{byte(i)})
		name, err := addr.Text(list(bare("a" + c)))
		if token := scan.Token("a" + c); (err == api.OK) != token || token && name != ";a"+c {
			t.Errorf("a name with the byte %d: %q, %d", i, name, err)
		}
		for _, v := range []string{c, "a" + c, "[::" + c + "]", "[::1" + c} {
			want, none := scan.Quote(v)
			if scan.Token(v) || uri.Host(scan.Lower(v)) {
				want = v
			}
			got, err := addr.Text(list(with("x", v)))
			if none != api.OK {
				if got != "" || err != api.ErrParam {
					t.Errorf("the value %q: %q, %d", v, got, err)
				}
			} else if got != ";x="+want || err != api.OK {
				t.Errorf("the value %q: %q, %d", v, got, err)
			}
		}
	}
}

func TestP5_6TextFields(t *testing.T) {
	for _, v := range odd {
		l := list(with("x", v), bare("lr"), with("y", v+v))
		if len(v) > 32 {
			l = l[:2]
		}
		s, err := addr.Text(l)
		if err != api.OK {
			t.Fatalf("Text(%+v): %d", l, err)
		}
		got, err := addr.Fields(scan.Parts(s, ';')[1:])
		if err != api.OK || !slices.Equal(got, l) {
			t.Errorf("Fields of %q = %+v, %d", s, got, err)
		}
	}
}

func TestRuleMemoryFields(t *testing.T) {
	parts := make([]string, 3, 5)
	parts[0], parts[1], parts[2] = strings.Clone("name=value"), strings.Clone("bare"), strings.Clone(`q="text"`)
	spare := parts[:5]
	spare[3] = "kept"
	l, err := addr.Fields(parts)
	if err != api.OK || len(l) != 3 {
		t.Fatal(l, err)
	}
	for _, p := range l {
		for _, given := range parts {
			if !apart(p.Name, given) || !apart(p.Value, given) {
				t.Errorf("%+v shares memory with %q", p, given)
			}
		}
	}
	if !slices.Equal(spare, []string{"name=value", "bare", `q="text"`, "kept", ""}) {
		t.Errorf("an argument was changed: %q", spare)
	}
}
