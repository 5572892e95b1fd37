package back

import (
	"bytes"
	"slices"
	"strings"
	"testing"

	"remuda/api"
	"remuda/frame"
)

// most is the highest number of 4 bytes.
const most = 1<<32 - 1

// kinds are all that servers say.
const kinds = "RSKZ123nsICDTtEN"

type pair struct {
	b    api.Back
	body string
}

// right are messages that may be said, each with its body.
func right() []pair {
	list := []pair{
		{api.Back{Kind: 'R'}, "\x00\x00\x00\x00"},
		{api.Back{Kind: 'S'}, "\x00\x00"},
		{api.Back{Kind: 'S', Name: "a", Value: "b c"}, "a\x00b c\x00"},
		{api.Back{Kind: 'K'}, "\x00\x00\x00\x00\x00\x00\x00\x00"},
		{api.Back{Kind: 'K', N: 258, M: 1}, "\x00\x00\x01\x02\x00\x00\x00\x01"},
		{api.Back{Kind: 'K', N: most, M: 1 << 31}, "\xff\xff\xff\xff\x80\x00\x00\x00"},
		{api.Back{Kind: 'Z', Status: 73}, "I"},
		{api.Back{Kind: 'Z', Status: 84}, "T"},
		{api.Back{Kind: 'Z', Status: 69}, "E"},
		{api.Back{Kind: 'C'}, "\x00"},
		{api.Back{Kind: 'C', Tag: "SELECT 1"}, "SELECT 1\x00"},
		{api.Back{Kind: 'D'}, "\x00\x00"},
		{api.Back{Kind: 'D', Row: []api.Cell{{Null: true}}}, "\x00\x01\xff\xff\xff\xff"},
		{api.Back{Kind: 'D', Row: []api.Cell{{}}}, "\x00\x01\x00\x00\x00\x00"},
		{api.Back{Kind: 'D', Row: []api.Cell{{Bytes: []byte{0, 255}}, {Null: true}, {}, {Bytes: []byte("x")}}},
			"\x00\x04\x00\x00\x00\x02\x00\xff\xff\xff\xff\xff\x00\x00\x00\x00\x00\x00\x00\x01x"},
		{api.Back{Kind: 'T'}, "\x00\x00"},
		{api.Back{Kind: 'T', Cols: []api.Col{{}}}, "\x00\x01\x00" + strings.Repeat("\x00", 18)},
		{api.Back{Kind: 'T', Cols: []api.Col{{Name: "c", Table: 1, Attr: 2, OID: 3, Size: 4, Mod: 5, Format: 6}}},
			"\x00\x01c\x00\x00\x00\x00\x01\x00\x02\x00\x00\x00\x03\x00\x04\x00\x00\x00\x05\x00\x06"},
		{api.Back{Kind: 'T', Cols: []api.Col{
			{Name: "c1", Table: most, Attr: 65535, OID: most, Size: -1, Mod: -1, Format: 65535},
			{Name: "", Table: 1 << 31, Attr: 1 << 15, OID: 1 << 31, Size: -1 << 15, Mod: -1 << 31, Format: 1 << 15},
			{Name: "\xff", Size: 1<<15 - 1, Mod: 1<<31 - 1},
		}},
			"\x00\x03c1\x00\xff\xff\xff\xff\xff\xff\xff\xff\xff\xff\xff\xff\xff\xff\xff\xff\xff\xff" +
				"\x00\x80\x00\x00\x00\x80\x00\x80\x00\x00\x00\x80\x00\x80\x00\x00\x00\x80\x00" +
				"\xff\x00\x00\x00\x00\x00\x00\x00\x00\x00\x00\x00\x7f\xff\x7f\xff\xff\xff\x00\x00"},
		{api.Back{Kind: 't'}, "\x00\x00"},
		{api.Back{Kind: 't', OIDs: []int{0, most, 258}}, "\x00\x03\x00\x00\x00\x00\xff\xff\xff\xff\x00\x00\x01\x02"},
	}
	for _, kind := range []byte("123nsI") {
		list = append(list, pair{api.Back{Kind: kind}, ""})
	}
	for _, kind := range []byte("EN") {
		list = append(list,
			pair{api.Back{Kind: kind}, "\x00"},
			pair{api.Back{Kind: kind, Fields: []api.Field{{Code: 1}}}, "\x01\x00\x00"},
			pair{api.Back{Kind: kind, Fields: []api.Field{{Code: 'S', Text: "ERROR"}, {Code: 'M', Text: ""}, {Code: 255, Text: "x y"}, {Code: 'S', Text: "b"}}},
				"SERROR\x00M\x00\xffx y\x00Sb\x00\x00"})
	}
	return list
}

// P7.1: the bodies. P7.2: Check, Encode and Decode take them. P7.3: Decode of Encode is the message.
func TestRight(t *testing.T) {
	for _, c := range right() {
		if e := Check(c.b); e != api.OK {
			t.Fatalf("Check(%+v) is %d", c.b, e)
		}
		m, e := Encode(c.b)
		if e != api.OK || m.Type != c.b.Kind || string(m.Body) != c.body {
			t.Fatalf("Encode(%+v) is %q, %d, not %q", c.b, m, e, c.body)
		}
		b, e := Decode(m)
		if e != api.OK || !Same(b, c.b) || b.Kind != c.b.Kind {
			t.Fatalf("Decode(%q) is %+v, %d, not %+v", m, b, e, c.b)
		}
	}
}

// P7.1: each kind is among the messages that may be said.
func TestRightKinds(t *testing.T) {
	for _, kind := range []byte(kinds) {
		if !slices.ContainsFunc(right(), func(c pair) bool { return c.b.Kind == kind }) {
			t.Errorf("no %c", kind)
		}
	}
}

// P7.2, P7.3: lists as long, and cells as big, as they may be.
func TestMost(t *testing.T) {
	fields := slices.Repeat([]api.Field{{Code: 'M', Text: "x"}}, api.MaxCount)
	for _, b := range []api.Back{
		{Kind: 't', OIDs: make([]int, api.MaxCount)},
		{Kind: 'T', Cols: make([]api.Col, api.MaxCount)},
		{Kind: 'D', Row: make([]api.Cell, api.MaxCount)},
		{Kind: 'D', Row: []api.Cell{{Bytes: make([]byte, 1<<20)}, {Bytes: make([]byte, 1<<20)}}},
		{Kind: 'E', Fields: fields},
		{Kind: 'N', Fields: fields},
		{Kind: 'C', Tag: strings.Repeat("x", 1<<21)},
	} {
		m, e := Encode(b)
		if e != api.OK {
			t.Fatalf("%c: Encode is %d", b.Kind, e)
		}
		if g, e := Decode(m); e != api.OK || !Same(b, g) {
			t.Fatalf("%c: Decode is %d", b.Kind, e)
		}
	}
}

// P7.2: another kind is told first.
func TestCheckKind(t *testing.T) {
	for k := range 256 {
		b := api.Back{Kind: byte(k), Name: "\x00", N: -1, Status: 1}
		want := api.ErrKind
		if strings.IndexByte(kinds, byte(k)) >= 0 {
			want = api.ErrArg
		}
		checkRefused(t, b, want)
	}
}

func checkRefused(t *testing.T, b api.Back, want api.Errno) {
	t.Helper()
	if e := Check(b); e != want {
		t.Fatalf("Check of a %q (%.200q, %.200v) is %d, not %d", b.Kind, b.Tag, b.Cols, e, want)
	}
	if m, e := Encode(b); e != want || m.Type != 0 || len(m.Body) != 0 {
		t.Fatalf("Encode of a %q is %d, not %d", b.Kind, e, want)
	}
	if out := Bytes(b); len(out) != 0 {
		t.Fatalf("Bytes of a %q is %.200q", b.Kind, out)
	}
}

// P7.2: what may not be said.
func TestCheckWrong(t *testing.T) {
	for _, b := range []api.Back{
		{Kind: 'S', Name: "a\x00"},
		{Kind: 'S', Name: "a", Value: "\x00b"},
		{Kind: 'K', N: -1},
		{Kind: 'K', M: -1},
		{Kind: 'K', N: most + 1},
		{Kind: 'K', M: most + 1},
		{Kind: 'C', Tag: "a\x00b"},
		{Kind: 't', OIDs: []int{-1}},
		{Kind: 't', OIDs: []int{0, most + 1}},
		{Kind: 't', OIDs: make([]int, api.MaxCount+1)},
		{Kind: 'D', Row: make([]api.Cell, api.MaxCount+1)},
		{Kind: 'D', Row: []api.Cell{{}, {Null: true, Bytes: []byte{0}}}},
		{Kind: 'D', Row: []api.Cell{{Bytes: make([]byte, 1<<20+1)}}},
		{Kind: 'T', Cols: make([]api.Col, api.MaxCount+1)},
		{Kind: 'E', Fields: []api.Field{{Text: "x"}}},
		{Kind: 'E', Fields: []api.Field{{Code: 'S'}, {}}},
		{Kind: 'E', Fields: []api.Field{{Code: 'M', Text: "x\x00"}}},
		{Kind: 'N', Fields: []api.Field{{Text: "x"}}},
		{Kind: 'N', Fields: []api.Field{{Code: 'M', Text: "\x00"}}},
		{Kind: 'E', Fields: slices.Repeat([]api.Field{{Code: 'M'}}, api.MaxCount+1)},
		{Kind: 'N', Fields: slices.Repeat([]api.Field{{Code: 'M'}}, api.MaxCount+1)},
	} {
		checkRefused(t, b, api.ErrArg)
	}
}

// P7.2: a column's numbers have their bounds, whichever column it is.
func TestCheckCols(t *testing.T) {
	for _, c := range []api.Col{
		{Name: "c\x00"},
		{Table: -1}, {Table: most + 1},
		{Attr: -1}, {Attr: 65536},
		{OID: -1}, {OID: most + 1},
		{Size: -1<<15 - 1}, {Size: 1 << 15}, {Size: 65535},
		{Mod: -1<<31 - 1}, {Mod: 1 << 31}, {Mod: most},
		{Format: -1}, {Format: 65536},
	} {
		checkRefused(t, api.Back{Kind: 'T', Cols: []api.Col{c}}, api.ErrArg)
		checkRefused(t, api.Back{Kind: 'T', Cols: []api.Col{{}, c, {}}}, api.ErrArg)
	}
}

// P7.2: a Z says one of three, and no other.
func TestCheckStatus(t *testing.T) {
	for s := range 256 {
		b := api.Back{Kind: 'Z', Status: byte(s)}
		m := api.Msg{Type: 'Z', Body: []byte{byte(s)}}
		if s == 73 || s == 84 || s == 69 {
			if g, e := Decode(m); Check(b) != api.OK || e != api.OK || !Same(g, b) {
				t.Errorf("status %d: Check is %d, Decode is %+v, %d", s, Check(b), g, e)
			}
			continue
		}
		checkRefused(t, b, api.ErrArg)
		checkForm(t, 'Z', string(m.Body))
	}
}

// setters make one field another one than zero.
func setters() map[string]func(*api.Back) {
	return map[string]func(*api.Back){
		"Status": func(b *api.Back) { b.Status = 'I' },
		"Tag":    func(b *api.Back) { b.Tag = "t" },
		"Name":   func(b *api.Back) { b.Name = "a" },
		"Value":  func(b *api.Back) { b.Value = "v" },
		"N":      func(b *api.Back) { b.N = 1 },
		"M":      func(b *api.Back) { b.M = 1 },
		"OIDs":   func(b *api.Back) { b.OIDs = []int{0} },
		"Cols":   func(b *api.Back) { b.Cols = []api.Col{{}} },
		"Row":    func(b *api.Back) { b.Row = []api.Cell{{}} },
		"Fields": func(b *api.Back) { b.Fields = []api.Field{{Code: 'M'}} },
	}
}

// plain is a message of that kind with as little as may be.
func plain(kind byte) api.Back {
	b := api.Back{Kind: kind}
	if kind == 'Z' {
		b.Status = 'I'
	}
	return b
}

// P7.2: each field that the body does not have is zero.
func TestCheckOther(t *testing.T) {
	has := map[byte][]string{
		'S': {"Name", "Value"}, 'K': {"N", "M"}, 'Z': {"Status"}, 'C': {"Tag"},
		'D': {"Row"}, 'T': {"Cols"}, 't': {"OIDs"}, 'E': {"Fields"}, 'N': {"Fields"},
	}
	for _, kind := range []byte(kinds) {
		for name, set := range setters() {
			b := plain(kind)
			if e := Check(b); e != api.OK {
				t.Fatalf("Check(%+v) is %d", b, e)
			}
			set(&b)
			if !slices.Contains(has[kind], name) {
				checkRefused(t, b, api.ErrArg)
			} else if e := Check(b); e != api.OK {
				t.Fatalf("Check(%+v) is %d", b, e)
			}
		}
	}
}

// P7.2: lists that are empty are as those that are not there.
func TestCheckEmpty(t *testing.T) {
	for _, kind := range []byte(kinds) {
		b := plain(kind)
		b.OIDs, b.Cols, b.Row, b.Fields = []int{}, []api.Col{}, []api.Cell{}, []api.Field{}
		if e := Check(b); e != api.OK {
			t.Fatalf("Check(%+v) is %d", b, e)
		}
	}
	if e := Check(api.Back{Kind: 'D', Row: []api.Cell{{Null: true, Bytes: []byte{}}}}); e != api.OK {
		t.Fatal(e)
	}
}

// P7.2: Decode refuses another type, whatever the body.
func TestDecodeKind(t *testing.T) {
	for k := range 256 {
		if strings.IndexByte(kinds, byte(k)) >= 0 {
			continue
		}
		for _, body := range []string{"", "\x00", "I", "\x00\x00\x00\x00"} {
			if b, e := Decode(api.Msg{Type: byte(k), Body: []byte(body)}); e != api.ErrKind || !Same(b, api.Back{}) {
				t.Fatalf("Decode of type %d is %+v, %d", k, b, e)
			}
		}
	}
}

func checkForm(t *testing.T, kind byte, body string) {
	t.Helper()
	if b, e := Decode(api.Msg{Type: kind, Body: []byte(body)}); e != api.ErrForm || !Same(b, api.Back{}) {
		t.Fatalf("Decode(%c %q) is %+v, %d", kind, body, b, e)
	}
}

// P7.2: a body that is too short, or too long, is none.
func TestDecodeLength(t *testing.T) {
	for _, c := range right() {
		for n := range len(c.body) {
			checkForm(t, c.b.Kind, c.body[:n])
		}
		checkForm(t, c.b.Kind, c.body+"\x00")
		checkForm(t, c.b.Kind, c.body+"x")
	}
}

// P7.2: bodies in another form.
func TestDecodeForm(t *testing.T) {
	for _, c := range []pair{
		{api.Back{Kind: 'R'}, "\x00\x00\x00\x01"},
		{api.Back{Kind: 'R'}, "\x01\x00\x00\x00"},
		{api.Back{Kind: 'R'}, "\x00\x00\x00\x03"},
		{api.Back{Kind: 'S'}, "a\x00b"},
		{api.Back{Kind: 'S'}, "a\x00"},
		{api.Back{Kind: 'S'}, "a\x00b\x00c\x00"},
		{api.Back{Kind: 'K'}, "\x00\x00\x00\x01\x00\x00\x00"},
		{api.Back{Kind: 'Z'}, ""},
		{api.Back{Kind: 'Z'}, "i"},
		{api.Back{Kind: 'Z'}, "II"},
		{api.Back{Kind: '1'}, "\x00"},
		{api.Back{Kind: 'C'}, ""},
		{api.Back{Kind: 'C'}, "a"},
		{api.Back{Kind: 'C'}, "a\x00b\x00"},
		{api.Back{Kind: 'D'}, "\x00"},
		{api.Back{Kind: 'D'}, "\x00\x01"},
		{api.Back{Kind: 'D'}, "\xff\xff"},
		{api.Back{Kind: 'D'}, "\x00\x01\xff\xff\xff\xfe"},
		{api.Back{Kind: 'D'}, "\x00\x01\x80\x00\x00\x00"},
		{api.Back{Kind: 'D'}, "\x00\x01\x00\x00\x00\x03ab"},
		{api.Back{Kind: 'D'}, "\x00\x00\xff\xff\xff\xff"},
		{api.Back{Kind: 'T'}, "\xff\xff"},
		{api.Back{Kind: 'T'}, "\x00\x02c\x00" + strings.Repeat("\x00", 18)},
		{api.Back{Kind: 'T'}, "\x00\x00c\x00" + strings.Repeat("\x00", 18)},
		{api.Back{Kind: 't'}, "\x00\x02\x00\x00\x00\x17"},
		{api.Back{Kind: 't'}, "\xff\xff"},
		{api.Back{Kind: 't'}, "\x00\x00\x00\x00\x00\x17"},
		{api.Back{Kind: 'E'}, ""},
		{api.Back{Kind: 'E'}, "S"},
		{api.Back{Kind: 'E'}, "Sa"},
		{api.Back{Kind: 'E'}, "Sa\x00"},
		{api.Back{Kind: 'E'}, "\x00Sa\x00\x00"},
		{api.Back{Kind: 'N'}, "Sa\x00\x00\x00"},
	} {
		checkForm(t, c.b.Kind, c.body)
	}
}

// P7.2: what Decode takes, of all short bodies of a few bytes, is just what Encode answers of it.
func TestDecodeShort(t *testing.T) {
	const alphabet = "\x00\x01IS\xff"
	for _, kind := range []byte(kinds) {
		took := 0
		bodies := []string{""}
		for len(bodies) > 0 {
			body := bodies[0]
			bodies = bodies[1:]
			if len(body) < 6 {
				for i := range len(alphabet) {
					bodies = append(bodies, body+alphabet[i:i+1])
				}
			}
			b, e := Decode(api.Msg{Type: kind, Body: []byte(body)})
			if e != api.OK {
				continue
			}
			took++
			if m, e := Encode(b); e != api.OK || m.Type != kind || string(m.Body) != body {
				t.Fatalf("Encode of %+v, decoded from %q, is %q, %d", b, body, m.Body, e)
			}
		}
		if took == 0 && kind != 'K' {
			t.Fatalf("no body of a %c was taken", kind)
		}
	}
}

// P7.2: Same holds each field against the other's, whatever the kind.
func TestSame(t *testing.T) {
	set := setters()
	for _, kind := range []byte{0, 'R', 'S', 'Z', 'T', 'p'} {
		if Same(api.Back{Kind: kind}, api.Back{Kind: 'X'}) {
			t.Fatalf("kind %q is X", kind)
		}
		for one := range set {
			b := api.Back{Kind: kind}
			set[one](&b)
			if g := (api.Back{Kind: kind}); Same(b, g) || Same(g, b) {
				t.Fatalf("%+v is %+v", b, g)
			}
			for other := range set {
				g := api.Back{Kind: kind}
				set[other](&g)
				if Same(b, g) != (one == other) {
					t.Fatalf("Same(%+v, %+v) is %v", b, g, one != other)
				}
			}
		}
	}
}

// P7.2: Same tells lists apart by how long they are, by their order, and by each field of what is in them; one that is nil is as one that is empty.
func TestSameLists(t *testing.T) {
	for _, c := range []struct {
		a, b api.Back
		want bool
	}{
		{api.Back{}, api.Back{}, true},
		{api.Back{}, api.Back{OIDs: []int{}, Cols: []api.Col{}, Row: []api.Cell{}, Fields: []api.Field{}}, true},
		{api.Back{OIDs: []int{1, 2}}, api.Back{OIDs: []int{1, 2}}, true},
		{api.Back{OIDs: []int{1, 2}}, api.Back{OIDs: []int{2, 1}}, false},
		{api.Back{OIDs: []int{1, 2}}, api.Back{OIDs: []int{1}}, false},
		{api.Back{Cols: []api.Col{{Name: "c", OID: 25, Size: -1}}}, api.Back{Cols: []api.Col{{Name: "c", OID: 25, Size: -1}}}, true},
		{api.Back{Cols: []api.Col{{}}}, api.Back{Cols: []api.Col{{}, {}}}, false},
		{api.Back{Cols: []api.Col{{Name: "a"}, {Name: "b"}}}, api.Back{Cols: []api.Col{{Name: "b"}, {Name: "a"}}}, false},
		{api.Back{Cols: []api.Col{{}}}, api.Back{Cols: []api.Col{{Name: "c"}}}, false},
		{api.Back{Cols: []api.Col{{}}}, api.Back{Cols: []api.Col{{Table: 1}}}, false},
		{api.Back{Cols: []api.Col{{}}}, api.Back{Cols: []api.Col{{Attr: 1}}}, false},
		{api.Back{Cols: []api.Col{{}}}, api.Back{Cols: []api.Col{{OID: 1}}}, false},
		{api.Back{Cols: []api.Col{{}}}, api.Back{Cols: []api.Col{{Size: 1}}}, false},
		{api.Back{Cols: []api.Col{{}}}, api.Back{Cols: []api.Col{{Mod: 1}}}, false},
		{api.Back{Cols: []api.Col{{}}}, api.Back{Cols: []api.Col{{Format: 1}}}, false},
		{api.Back{Row: []api.Cell{{}}}, api.Back{Row: []api.Cell{{Bytes: []byte{}}}}, true},
		{api.Back{Row: []api.Cell{{}}}, api.Back{Row: []api.Cell{{Null: true}}}, false},
		{api.Back{Row: []api.Cell{{}}}, api.Back{Row: []api.Cell{{}, {}}}, false},
		{api.Back{Row: []api.Cell{{Bytes: []byte{1}}}}, api.Back{Row: []api.Cell{{Bytes: []byte{2}}}}, false},
		{api.Back{Row: []api.Cell{{Bytes: []byte{1}}, {}}}, api.Back{Row: []api.Cell{{}, {Bytes: []byte{1}}}}, false},
		{api.Back{Fields: []api.Field{{Code: 'M', Text: "x"}}}, api.Back{Fields: []api.Field{{Code: 'M', Text: "x"}}}, true},
		{api.Back{Fields: []api.Field{{Code: 'M'}}}, api.Back{Fields: []api.Field{{Code: 'S'}}}, false},
		{api.Back{Fields: []api.Field{{Code: 'M'}}}, api.Back{Fields: []api.Field{{Code: 'M', Text: "x"}}}, false},
		{api.Back{Fields: []api.Field{{Code: 'M'}}}, api.Back{Fields: []api.Field{{Code: 'M'}, {Code: 'M'}}}, false},
		{api.Back{N: 1}, api.Back{M: 1}, false},
		{api.Back{N: -1}, api.Back{N: most}, false},
		{api.Back{Name: "a", Value: "b"}, api.Back{Name: "b", Value: "a"}, false},
		{api.Back{Tag: "a\x00"}, api.Back{Tag: "a"}, false},
	} {
		if Same(c.a, c.b) != c.want || Same(c.b, c.a) != c.want {
			t.Fatalf("Same(%+v, %+v) is not %v", c.a, c.b, c.want)
		}
	}
}

// P7.2: Bytes of nothing is nothing; of one, what frame says of its message.
func TestBytesOne(t *testing.T) {
	if b := Bytes(); len(b) != 0 {
		t.Fatalf("Bytes() is %v", b)
	}
	if b := Bytes(api.Back{Kind: 'Z', Status: 73}); !bytes.Equal(b, []byte{90, 0, 0, 0, 5, 73}) {
		t.Fatalf("Bytes of a Z is %v", b)
	}
	if b := Bytes(api.Back{Kind: 'C', Tag: strings.Repeat("x", 70000)}); len(b) != 70006 || string(b[:6]) != "C\x00\x01\x11\x75x" {
		t.Fatalf("Bytes of a long C has %d, and begins with %q", len(b), b[:6])
	}
	for _, c := range right() {
		m, _ := Encode(c.b)
		if b := Bytes(c.b); !bytes.Equal(b, frame.Bytes(m)) {
			t.Fatalf("Bytes(%+v) is %q", c.b, b)
		}
	}
}

// P7.2: Bytes of many is each one's, in their order, but for those that may not be.
func TestBytesMany(t *testing.T) {
	var list []api.Back
	var want []byte
	for _, c := range right() {
		list = append(list, c.b, api.Back{Kind: 'Z'}, api.Back{Kind: 'Q'}, api.Back{}, api.Back{Kind: '1', N: 1})
		want = append(want, Bytes(c.b)...)
	}
	if b := Bytes(list...); !bytes.Equal(b, want) {
		t.Fatalf("Bytes is %q, not %q", b, want)
	}
	slices.Reverse(list)
	if b := Bytes(list...); len(b) != len(want) || bytes.Equal(b, want) {
		t.Fatalf("the other way round, Bytes is %q", b)
	}
}

// P7.2: what is handed in is not kept or changed, nor what is answered shared.
func TestShared(t *testing.T) {
	want := api.Back{Kind: 'D', Row: []api.Cell{{Bytes: []byte("xy")}, {Bytes: []byte("z")}}}
	m, _ := Encode(want)
	room := append(make([]byte, 0, len(m.Body)+8), m.Body...)
	whole := bytes.Clone(room[:cap(room)])
	b, e := Decode(api.Msg{Type: 'D', Body: room})
	if e != api.OK || !bytes.Equal(room[:cap(room)], whole) {
		t.Fatalf("%q, %d", room[:cap(room)], e)
	}
	clear(room)
	_ = append(b.Row[0].Bytes, "abcdefgh"...)
	if !Same(b, want) {
		t.Fatalf("%+v", b)
	}
	clear(m.Body)
	clear(Bytes(b))
	if again, e := Encode(b); e != api.OK || string(again.Body) != string(whole[:len(room)]) || !Same(b, want) {
		t.Fatalf("%q, %d", again, e)
	}
}
