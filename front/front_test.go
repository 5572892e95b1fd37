package front

import (
	"bytes"
	"strings"
	"testing"

	"remuda/api"
)

// most is the highest number of 4 bytes.
const most = 1<<32 - 1

type pair struct {
	f    api.Front
	body string
}

// right are messages that may be said, each with its body.
func right() []pair {
	return []pair{
		{api.Front{Kind: 'P'}, "\x00\x00\x00\x00"},
		{api.Front{Kind: 'P', Name: "a", Text: "select 1"}, "a\x00select 1\x00\x00\x00"},
		{api.Front{Kind: 'P', Name: "", Text: "x", OIDs: []int{23}}, "\x00x\x00\x00\x01\x00\x00\x00\x17"},
		{api.Front{Kind: 'P', Name: "a", Text: "", OIDs: []int{0, most, 258}}, "a\x00\x00\x00\x03\x00\x00\x00\x00\xff\xff\xff\xff\x00\x00\x01\x02"},
		{api.Front{Kind: 'B'}, "\x00\x00\x00\x00\x00\x00\x00\x00"},
		{api.Front{Kind: 'B', Portal: "p", Name: "a"}, "p\x00a\x00\x00\x00\x00\x00\x00\x00"},
		{api.Front{Kind: 'B', Formats: []int{1}}, "\x00\x00\x00\x01\x00\x01\x00\x00\x00\x00"},
		{api.Front{Kind: 'B', Results: []int{1}}, "\x00\x00\x00\x00\x00\x00\x00\x01\x00\x01"},
		{api.Front{Kind: 'B', Params: []api.Cell{{Null: true}}}, "\x00\x00\x00\x00\x00\x01\xff\xff\xff\xff\x00\x00"},
		{api.Front{Kind: 'B', Params: []api.Cell{{}}}, "\x00\x00\x00\x00\x00\x01\x00\x00\x00\x00\x00\x00"},
		{api.Front{Kind: 'B', Portal: "p", Name: "a", Formats: []int{0, 65535}, Params: []api.Cell{{Bytes: []byte{0, 255}}, {Null: true}, {}, {Bytes: []byte("x")}}, Results: []int{256, 0, 65535}},
			"p\x00a\x00\x00\x02\x00\x00\xff\xff\x00\x04\x00\x00\x00\x02\x00\xff\xff\xff\xff\xff\x00\x00\x00\x00\x00\x00\x00\x01x\x00\x03\x01\x00\x00\x00\xff\xff"},
		{api.Front{Kind: 'C', What: 'S'}, "S\x00"},
		{api.Front{Kind: 'C', What: 'S', Name: "a"}, "Sa\x00"},
		{api.Front{Kind: 'C', What: 'P'}, "P\x00"},
		{api.Front{Kind: 'C', What: 'P', Portal: "p"}, "Pp\x00"},
		{api.Front{Kind: 'D', What: 'S', Name: "a b"}, "Sa b\x00"},
		{api.Front{Kind: 'D', What: 'P', Portal: "\xff"}, "P\xff\x00"},
		{api.Front{Kind: 'E'}, "\x00\x00\x00\x00\x00"},
		{api.Front{Kind: 'E', Portal: "p", Max: 258}, "p\x00\x00\x00\x01\x02"},
		{api.Front{Kind: 'E', Max: -1}, "\x00\xff\xff\xff\xff"},
		{api.Front{Kind: 'E', Max: 1<<31 - 1}, "\x00\x7f\xff\xff\xff"},
		{api.Front{Kind: 'E', Max: -1 << 31}, "\x00\x80\x00\x00\x00"},
		{api.Front{Kind: 'H'}, ""},
		{api.Front{Kind: 'Q'}, "\x00"},
		{api.Front{Kind: 'Q', Text: "begin"}, "begin\x00"},
		{api.Front{Kind: 'S'}, ""},
		{api.Front{Kind: 'X'}, ""},
	}
}

// P6.1: of each byte, whether it is a kind that is served, one that is known, or none.
func TestKnown(t *testing.T) {
	for k := range 256 {
		want := 0
		if strings.IndexByte("BCDEHPQSX", byte(k)) >= 0 {
			want = 1
		} else if strings.IndexByte("Fcdfp", byte(k)) >= 0 {
			want = 2
		}
		if n := Known(byte(k)); n != want {
			t.Fatalf("Known(%d) is %d, not %d", k, n, want)
		}
	}
}

// P6.1: the bodies. P6.2: Check, Encode and Decode take them. P6.3: Decode of Encode is the message.
func TestRight(t *testing.T) {
	for _, c := range right() {
		if e := Check(c.f); e != api.OK {
			t.Fatalf("Check(%+v) is %d", c.f, e)
		}
		m, e := Encode(c.f)
		if e != api.OK || m.Type != c.f.Kind || string(m.Body) != c.body {
			t.Fatalf("Encode(%+v) is %q, %d, not %q", c.f, m, e, c.body)
		}
		f, e := Decode(m)
		if e != api.OK || !Same(f, c.f) || f.Kind != c.f.Kind {
			t.Fatalf("Decode(%q) is %+v, %d, not %+v", m, f, e, c.f)
		}
	}
}

// P6.2, P6.3: lists as long, and cells as big, as they may be.
func TestMost(t *testing.T) {
	for _, f := range []api.Front{
		{Kind: 'P', Text: "x", OIDs: make([]int, api.MaxCount)},
		{Kind: 'B', Formats: make([]int, api.MaxCount)},
		{Kind: 'B', Params: make([]api.Cell, api.MaxCount)},
		{Kind: 'B', Results: make([]int, api.MaxCount)},
		{Kind: 'B', Params: []api.Cell{{Bytes: make([]byte, 1<<20)}, {Bytes: make([]byte, 1<<20)}}},
		{Kind: 'Q', Text: strings.Repeat("x", 1<<20)},
	} {
		m, e := Encode(f)
		if e != api.OK {
			t.Fatalf("%c: Encode is %d", f.Kind, e)
		}
		if g, e := Decode(m); e != api.OK || !Same(f, g) {
			t.Fatalf("%c: Decode is %d", f.Kind, e)
		}
	}
}

// P6.2: a kind that is not served is told first.
func TestCheckKind(t *testing.T) {
	for k := range 256 {
		f := api.Front{Kind: byte(k), Name: "\x00", Max: 1 << 40}
		want := api.ErrArg
		if Known(byte(k)) != 1 {
			want = api.ErrKind
		}
		if e := Check(f); e != want {
			t.Fatalf("Check of kind %d is %d, not %d", k, e, want)
		}
		if m, e := Encode(f); e != want || m.Type != 0 || len(m.Body) != 0 {
			t.Fatalf("Encode of kind %d is %q, %d, not %d", k, m.Body, e, want)
		}
	}
}

// P6.2: what may not be said.
func TestCheckWrong(t *testing.T) {
	for _, f := range []api.Front{
		{Kind: 'P', Name: "a\x00"},
		{Kind: 'P', Text: "\x00"},
		{Kind: 'P', OIDs: []int{-1}},
		{Kind: 'P', OIDs: []int{0, most + 1}},
		{Kind: 'P', OIDs: make([]int, api.MaxCount+1)},
		{Kind: 'B', Name: "a\x00b"},
		{Kind: 'B', Portal: "\x00a"},
		{Kind: 'B', Formats: []int{0, -1}},
		{Kind: 'B', Formats: []int{65536}},
		{Kind: 'B', Formats: make([]int, api.MaxCount+1)},
		{Kind: 'B', Results: []int{-1}},
		{Kind: 'B', Results: []int{1, 65536}},
		{Kind: 'B', Results: make([]int, api.MaxCount+1)},
		{Kind: 'B', Params: make([]api.Cell, api.MaxCount+1)},
		{Kind: 'B', Params: []api.Cell{{}, {Null: true, Bytes: []byte{0}}}},
		{Kind: 'B', Params: []api.Cell{{Bytes: make([]byte, 1<<20+1)}}},
		{Kind: 'C'},
		{Kind: 'C', Name: "a"},
		{Kind: 'C', What: 's', Name: "a"},
		{Kind: 'C', What: 'S', Name: "\x00"},
		{Kind: 'C', What: 'P', Portal: "\x00"},
		{Kind: 'D', What: 'X'},
		{Kind: 'D', What: 'Q', Portal: "p"},
		{Kind: 'D', What: 'S', Name: "\x00"},
		{Kind: 'D', What: 'P', Portal: "\x00"},
		{Kind: 'E', Portal: "p\x00"},
		{Kind: 'E', Max: 1 << 31},
		{Kind: 'E', Max: -1<<31 - 1},
		{Kind: 'E', Max: most},
		{Kind: 'Q', Text: "a\x00"},
	} {
		checkRefused(t, f)
	}
}

// P6.2: each field that the body does not have is zero.
func TestCheckOther(t *testing.T) {
	has := map[byte]string{
		'B': "Portal Name Formats Params Results", 'C': "What Name Portal", 'D': "What Name Portal", 'E': "Portal Max",
		'H': "", 'P': "Name Text OIDs", 'Q': "Text", 'S': "", 'X': "",
	}
	for kind, fields := range has {
		for name, set := range setters() {
			if strings.Contains(fields, name) {
				continue
			}
			f := api.Front{Kind: kind}
			if kind == 'C' || kind == 'D' {
				f.What = 'S'
			}
			if e := Check(f); e != api.OK {
				t.Fatalf("Check(%+v) is %d", f, e)
			}
			set(&f)
			checkRefused(t, f)
		}
	}
	for _, kind := range []byte{'C', 'D'} {
		checkRefused(t, api.Front{Kind: kind, What: 'S', Portal: "p"})
		checkRefused(t, api.Front{Kind: kind, What: 'P', Name: "a"})
		checkRefused(t, api.Front{Kind: kind, What: 'S', Name: "a", Portal: "p"})
		checkRefused(t, api.Front{Kind: kind, What: 'P', Name: "a", Portal: "p"})
	}
}

// setters make one field another one than zero.
func setters() map[string]func(*api.Front) {
	return map[string]func(*api.Front){
		"What":    func(f *api.Front) { f.What = 'S' },
		"Name":    func(f *api.Front) { f.Name = "a" },
		"Portal":  func(f *api.Front) { f.Portal = "p" },
		"Text":    func(f *api.Front) { f.Text = "x" },
		"OIDs":    func(f *api.Front) { f.OIDs = []int{0} },
		"Formats": func(f *api.Front) { f.Formats = []int{0} },
		"Results": func(f *api.Front) { f.Results = []int{0} },
		"Params":  func(f *api.Front) { f.Params = []api.Cell{{}} },
		"Max":     func(f *api.Front) { f.Max = 1 },
	}
}

func checkRefused(t *testing.T, f api.Front) {
	t.Helper()
	if e := Check(f); e != api.ErrArg {
		t.Fatalf("Check of a %c (%.200q) is %d", f.Kind, f.Text, e)
	}
	if m, e := Encode(f); e != api.ErrArg || m.Type != 0 || len(m.Body) != 0 {
		t.Fatalf("Encode of a %c is %d", f.Kind, e)
	}
}

// P6.2: lists that are empty are as those that are not there.
func TestCheckEmpty(t *testing.T) {
	for k := range 256 {
		if Known(byte(k)) != 1 {
			continue
		}
		f := api.Front{Kind: byte(k), OIDs: []int{}, Formats: []int{}, Results: []int{}, Params: []api.Cell{}}
		if k == 'C' || k == 'D' {
			f.What = 'P'
		}
		if e := Check(f); e != api.OK {
			t.Fatalf("Check(%+v) is %d", f, e)
		}
	}
	if e := Check(api.Front{Kind: 'B', Params: []api.Cell{{Null: true, Bytes: []byte{}}}}); e != api.OK {
		t.Fatal(e)
	}
}

// P6.2: Decode tells kinds that are known from others, whatever the body.
func TestDecodeKind(t *testing.T) {
	for k := range 256 {
		want := api.ErrForm
		switch Known(byte(k)) {
		case 1:
			continue
		case 2:
			want = api.ErrKind
		}
		for _, body := range []string{"", "\x00", "S\x00"} {
			if f, e := Decode(api.Msg{Type: byte(k), Body: []byte(body)}); e != want || !Same(f, api.Front{}) {
				t.Fatalf("Decode of type %d is %+v, %d, not %d", k, f, e, want)
			}
		}
	}
}

// P6.2: a body that is too short, or too long, is none.
func TestDecodeLength(t *testing.T) {
	for _, c := range right() {
		for n := range len(c.body) {
			checkForm(t, c.f.Kind, c.body[:n])
		}
		checkForm(t, c.f.Kind, c.body+"\x00")
		checkForm(t, c.f.Kind, c.body+"x")
	}
}

// P6.2: bodies in another form.
func TestDecodeForm(t *testing.T) {
	for _, c := range []struct {
		kind byte
		body string
	}{
		{'P', "a"},
		{'P', "a\x00x\x00\x00\x02\x00\x00\x00\x17"},
		{'P', "a\x00x\x00\x00\x01\x00\x00\x00"},
		{'P', "a\x00x\x00\xff\xff"},
		{'P', "a\x00x\x00\x00\x00\x00\x00\x00\x17"},
		{'B', "p\x00a\x00\x00\x00\x00\x01\xff\xff\xff\xfe\x00\x00"},
		{'B', "p\x00a\x00\x00\x00\x00\x01\x80\x00\x00\x00\x00\x00"},
		{'B', "p\x00a\x00\x00\x00\x00\x01\x00\x00\x00\x03\x00\x00"},
		{'B', "p\x00a\x00\x00\x00\xff\xff\xff\xff\xff\xff"},
		{'C', "\x00\x00"},
		{'C', "s\x00"},
		{'C', "Xa\x00"},
		{'C', "a\x00"},
		{'D', "X\x00"},
		{'D', "Qp\x00"},
		{'D', "S"},
		{'D', "Sa"},
		{'E', "p\x00\x00\x00\x01"},
		{'Q', ""},
		{'Q', "a"},
		{'Q', "a\x00b\x00"},
		{'H', "\x00"},
		{'S', "\x00"},
		{'X', "x"},
	} {
		checkForm(t, c.kind, c.body)
	}
}

func checkForm(t *testing.T, kind byte, body string) {
	t.Helper()
	if f, e := Decode(api.Msg{Type: kind, Body: []byte(body)}); e != api.ErrForm || !Same(f, api.Front{}) {
		t.Fatalf("Decode(%c %q) is %+v, %d", kind, body, f, e)
	}
}

// P6.2: what Decode takes, of all short bodies of a few bytes, is just what Encode answers of it.
func TestDecodeShort(t *testing.T) {
	const alphabet = "\x00\x01SP\xff"
	took := 0
	for _, kind := range []byte("BCDEHPQSX") {
		bodies := []string{""}
		for len(bodies) > 0 {
			body := bodies[0]
			bodies = bodies[1:]
			if len(body) < 6 {
				for i := range len(alphabet) {
					bodies = append(bodies, body+alphabet[i:i+1])
				}
			}
			f, e := Decode(api.Msg{Type: kind, Body: []byte(body)})
			if e != api.OK {
				continue
			}
			took++
			if m, e := Encode(f); e != api.OK || m.Type != kind || string(m.Body) != body {
				t.Fatalf("Encode of %+v, decoded from %q, is %q, %d", f, body, m.Body, e)
			}
		}
	}
	if took == 0 {
		t.Fatal("no body was taken")
	}
}

// P6.2: a field that its body does not have is not answered.
func TestDecodeZero(t *testing.T) {
	f, e := Decode(api.Msg{Type: 'B', Body: []byte("\x00\x00\x00\x00\x00\x01\xff\xff\xff\xff\x00\x00")})
	if e != api.OK || len(f.Params) != 1 || !f.Params[0].Null || len(f.Params[0].Bytes) != 0 || f.What != 0 || f.Text != "" || len(f.OIDs) != 0 || f.Max != 0 {
		t.Fatalf("%+v, %d", f, e)
	}
}

// P6.2: Same holds each field against the other's, whatever the kind.
func TestSame(t *testing.T) {
	set := setters()
	for _, kind := range []byte{0, 'B', 'C', 'P', 'S', 'p'} {
		if Same(api.Front{Kind: kind}, api.Front{Kind: 'X'}) {
			t.Fatalf("kind %q is X", kind)
		}
		for one := range set {
			f := api.Front{Kind: kind}
			set[one](&f)
			if g := (api.Front{Kind: kind}); Same(f, g) || Same(g, f) {
				t.Fatalf("%+v is %+v", f, g)
			}
			for other := range set {
				g := api.Front{Kind: kind}
				set[other](&g)
				if Same(f, g) != (one == other) {
					t.Fatalf("Same(%+v, %+v) is %v", f, g, one != other)
				}
			}
		}
	}
}

// P6.2: Same tells lists apart by how long they are, by their order, and by what is in each cell; one that is nil is as one that is empty.
func TestSameLists(t *testing.T) {
	for _, c := range []struct {
		a, b api.Front
		want bool
	}{
		{api.Front{}, api.Front{}, true},
		{api.Front{}, api.Front{OIDs: []int{}, Formats: []int{}, Results: []int{}, Params: []api.Cell{}}, true},
		{api.Front{OIDs: []int{1, 2}}, api.Front{OIDs: []int{1, 2}}, true},
		{api.Front{OIDs: []int{1, 2}}, api.Front{OIDs: []int{2, 1}}, false},
		{api.Front{OIDs: []int{1, 2}}, api.Front{OIDs: []int{1}}, false},
		{api.Front{OIDs: []int{1}}, api.Front{Formats: []int{1}}, false},
		{api.Front{Formats: []int{1}}, api.Front{Formats: []int{1, 1}}, false},
		{api.Front{Results: []int{1}}, api.Front{Results: []int{0}}, false},
		{api.Front{Formats: []int{1}}, api.Front{Results: []int{1}}, false},
		{api.Front{Params: []api.Cell{{}}}, api.Front{Params: []api.Cell{{Bytes: []byte{}}}}, true},
		{api.Front{Params: []api.Cell{{}}}, api.Front{Params: []api.Cell{{Null: true}}}, false},
		{api.Front{Params: []api.Cell{{}}}, api.Front{Params: []api.Cell{{}, {}}}, false},
		{api.Front{Params: []api.Cell{{Null: true}}}, api.Front{Params: []api.Cell{{Null: true, Bytes: []byte{1}}}}, false},
		{api.Front{Params: []api.Cell{{Bytes: []byte{1}}}}, api.Front{Params: []api.Cell{{Bytes: []byte{2}}}}, false},
		{api.Front{Params: []api.Cell{{Bytes: []byte{1}}, {}}}, api.Front{Params: []api.Cell{{}, {Bytes: []byte{1}}}}, false},
		{api.Front{Name: "a"}, api.Front{Name: "b"}, false},
		{api.Front{Name: "a"}, api.Front{Portal: "a"}, false},
		{api.Front{Name: "a"}, api.Front{Text: "a"}, false},
		{api.Front{Name: "a", Portal: "b"}, api.Front{Name: "b", Portal: "a"}, false},
		{api.Front{Name: "a\x00"}, api.Front{Name: "a"}, false},
		{api.Front{Max: -1}, api.Front{Max: most}, false},
	} {
		if Same(c.a, c.b) != c.want || Same(c.b, c.a) != c.want {
			t.Fatalf("Same(%+v, %+v) is not %v", c.a, c.b, c.want)
		}
	}
}

// P6.2: what is handed in is not kept or changed, nor what is answered shared.
func TestShared(t *testing.T) {
	want := api.Front{Kind: 'B', Portal: "p", Name: "a", Formats: []int{1}, Params: []api.Cell{{Bytes: []byte("xy")}, {Bytes: []byte("z")}}, Results: []int{2}}
	m, _ := Encode(want)
	room := append(make([]byte, 0, len(m.Body)+8), m.Body...)
	whole := bytes.Clone(room[:cap(room)])
	f, e := Decode(api.Msg{Type: 'B', Body: room})
	if e != api.OK || !bytes.Equal(room[:cap(room)], whole) {
		t.Fatalf("%q, %d", room[:cap(room)], e)
	}
	clear(room)
	_ = append(f.Params[0].Bytes, "abcdefgh"...)
	_ = append(f.Formats, 7)
	if !Same(f, want) {
		t.Fatalf("%+v", f)
	}
	clear(m.Body)
	if again, e := Encode(f); e != api.OK || string(again.Body) != string(whole[:len(room)]) || !Same(f, want) {
		t.Fatalf("%q, %d", again, e)
	}
}
