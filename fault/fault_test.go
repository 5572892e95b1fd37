package fault

import (
	"bytes"
	"slices"
	"strings"
	"testing"

	"remuda/api"
	"remuda/back"
)

// P8.1: Make answers S, V, C and M, in this order.
func TestMake(t *testing.T) {
	for _, c := range [][3]string{{"ERROR", "42601", "x"}, {"FATAL", "08P01", "a\x00\xff"}, {"", "", ""}, {"a", "b", ""}} {
		want := []api.Field{{Code: 83, Text: c[0]}, {Code: 86, Text: c[0]}, {Code: 67, Text: c[1]}, {Code: 77, Text: c[2]}}
		if l := Make(c[0], c[1], c[2]); !slices.Equal(l, want) {
			t.Errorf("Make(%q) is %v", c, l)
		}
	}
}

// P8.1: Get answers the text of the first one with that code, also where it is empty.
func TestGet(t *testing.T) {
	l := []api.Field{{Code: 'M', Text: "x"}, {Code: 'C', Text: ""}, {Code: 'M', Text: "y"}, {Code: 'C', Text: "z"}, {Code: 0, Text: "n"}, {Code: 255, Text: "h"}}
	for _, c := range []struct {
		code byte
		want string
	}{{'M', "x"}, {'C', ""}, {0, "n"}, {255, "h"}} {
		if s, ok := Get(l, c.code); s != c.want || !ok {
			t.Errorf("Get(l, %d) is %q, %v", c.code, s, ok)
		}
	}
	if s, ok := Get(Make("ERROR", "42601", "text"), 'M'); s != "text" || !ok {
		t.Errorf("Get of Make is %q, %v", s, ok)
	}
}

// P8.1: Get tells that there is none.
func TestGetNone(t *testing.T) {
	for _, l := range [][]api.Field{nil, {}, {{Code: 'C', Text: "M"}}, {{Code: 'C', Text: "x"}, {Code: 'm', Text: "x"}, {Text: "x"}}} {
		if s, ok := Get(l, 'M'); s != "" || ok {
			t.Errorf("Get(%v, M) is %q, %v", l, s, ok)
		}
	}
}

// P8.1: With changes the first one with that code, and no other. P8.2: Get of With is the text.
func TestWith(t *testing.T) {
	l := []api.Field{{Code: 'S', Text: "a"}, {Code: 'M', Text: "b"}, {Code: 'C', Text: "c"}, {Code: 'M', Text: "d"}, {Code: 0, Text: "e"}}
	for _, c := range []struct {
		code byte
		at   int
	}{{'S', 0}, {'M', 1}, {'C', 2}, {0, 4}} {
		for _, text := range []string{"", "x", "b\x00\xff", strings.Repeat("long", 1000)} {
			want := slices.Clone(l)
			want[c.at].Text = text
			got := With(l, c.code, text)
			if !slices.Equal(got, want) {
				t.Errorf("With(l, %d, %q) is %v", c.code, text, got)
			}
			if s, ok := Get(got, c.code); s != text || !ok {
				t.Errorf("Get of With(l, %d, %q) is %q, %v", c.code, text, s, ok)
			}
		}
	}
}

// P8.1, P8.2: where no field has that code, With changes nothing, and adds nothing.
func TestWithNone(t *testing.T) {
	for _, l := range [][]api.Field{nil, {}, {{Code: 'C', Text: "c"}}, {{Code: 'S', Text: "M"}, {Code: 'm', Text: "x"}}} {
		got := With(l, 'M', "y")
		if !slices.Equal(got, l) {
			t.Errorf("With(%v, M) is %v", l, got)
		}
		if s, ok := Get(got, 'M'); s != "" || ok {
			t.Errorf("Get of With(%v, M) is %q, %v", l, s, ok)
		}
	}
}

// P8.1: what With is handed stays, its spare room included, and is not shared with the answer.
func TestWithApart(t *testing.T) {
	for _, code := range []byte{'M', 'X'} { // no field has an X
		room := []api.Field{{Code: 'S', Text: "a"}, {Code: 'M', Text: "b"}, {Code: 'C', Text: "c"}}
		whole := slices.Clone(room)
		got := With(room[:2], code, "x")
		_ = append(got, api.Field{Code: 'D'})
		clear(got)
		if !slices.Equal(room, whole) {
			t.Errorf("With(l, %c) left %v", code, room)
		}
	}
}

// P8.1: what Make and Error answer may be changed.
func TestMakeApart(t *testing.T) {
	clear(Make("ERROR", "1", "2"))
	clear(Error("1", "2").Fields)
	if l := Make("ERROR", "1", "2"); !slices.Equal(l, Error("1", "2").Fields) || l[0] != (api.Field{Code: 'S', Text: "ERROR"}) {
		t.Errorf("Make is %v later", l)
	}
}

// P8.1: Error is an E with Make of ERROR, and nothing else, whatever it tells.
func TestError(t *testing.T) {
	for _, c := range [][2]string{{"26000", `prepared statement "b" does not exist`}, {"", ""}, {"a\x00", "\x00"}} {
		want := api.Back{Kind: 69, Fields: Make("ERROR", c[0], c[1])}
		if b := Error(c[0], c[1]); !back.Same(b, want) {
			t.Errorf("Error(%q) is %+v", c, b)
		}
	}
}

// P8.1: Fatal is the bytes of an E with Make of FATAL.
func TestFatal(t *testing.T) {
	want := "E\x00\x00\x00\x1dSFATAL\x00VFATAL\x00C08P01\x00Mz\x00\x00"
	if b := Fatal("08P01", "z"); string(b) != want {
		t.Errorf("Fatal is %q", b)
	}
	for _, c := range [][2]string{{"", ""}, {"0A000", strings.Repeat("x", 100000)}} {
		if b := Fatal(c[0], c[1]); !bytes.Equal(b, back.Bytes(api.Back{Kind: 'E', Fields: Make("FATAL", c[0], c[1])})) || len(b) != 24+len(c[0]+c[1]) {
			t.Errorf("Fatal of %d bytes is %.100q", len(c[1]), b)
		}
	}
}

// P8.1: what may not be said has no bytes.
func TestFatalWrong(t *testing.T) {
	for _, c := range [][2]string{{"08P01", "a\x00"}, {"\x00", "z"}} {
		if b := Fatal(c[0], c[1]); len(b) != 0 {
			t.Errorf("Fatal(%q) is %q", c, b)
		}
	}
}
