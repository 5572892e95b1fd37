package client

import (
	"bytes"
	"math"
	"math/rand"
	"reflect"
	"slices"
	"strings"
	"testing"

	"remuda/api"
	"remuda/frame"
	"remuda/front"
	"remuda/hello"
)

// Faults that are told: of what is no message, and of what is not served.
func violation() Item { return Item{Kind: Fault, Code: "08P01", Text: "protocol violation"} }
func unserved() Item  { return Item{Kind: Fault, Code: "0A000", Text: "unsupported message"} }

// made answers a client that New must make.
func made(t *testing.T, most, room int) *Client {
	t.Helper()
	c, e := New(most, room)
	if c == nil || e != api.OK {
		t.Fatalf("New(%d, %d) is %v, %d", most, room, c, e)
	}
	return c
}

// feed checks that there is room for b, and that just so many bytes are there then.
func feed(t *testing.T, c *Client, b ...byte) {
	t.Helper()
	had := c.Size()
	if e := c.Feed(b); e != api.OK || c.Size() != had+len(b) {
		t.Fatalf("Feed of %d bytes is %d, and Size %d, that was %d", len(b), e, c.Size(), had)
	}
}

// begun answers a client whose first messages are over.
func begun(t *testing.T, b ...byte) *Client {
	t.Helper()
	c := made(t, 100, 300)
	c.Begin()
	feed(t, c, b...)
	return c
}

// same tells whether two items are alike, be their lists nil or empty.
func same(a, b Item) bool {
	if !slices.Equal(a.Hello.Params, b.Hello.Params) || !front.Same(a.Front, b.Front) {
		return false
	}
	a.Hello.Params, b.Hello.Params, a.Front, b.Front = nil, nil, api.Front{}, api.Front{}
	return reflect.DeepEqual(a, b)
}

// next checks that want is next, that Peek leaves it there, and that Take takes so many bytes.
func next(t *testing.T, what string, c *Client, want Item, size int) {
	t.Helper()
	had := c.Size()
	for range 2 {
		if got := c.Peek(); !same(got, want) || c.Size() != had {
			t.Fatalf("%s: Peek is %+v, not %+v, and takes %d bytes", what, got, want, had-c.Size())
		}
	}
	if got := c.Take(); !same(got, want) || c.Size() != had-size {
		t.Fatalf("%s: Take is %+v, not %+v, and takes %d bytes, not %d", what, got, want, had-c.Size(), size)
	}
}

// firstBytes answers the bytes of a first message with this body.
func firstBytes(body ...byte) []byte {
	return frame.Bytes(api.Msg{Body: body})
}

// helloBytes answers the bytes of h.
func helloBytes(t *testing.T, h api.Hello) []byte {
	t.Helper()
	b, e := hello.Build(h)
	if e != api.OK {
		t.Fatalf("Build(%v) is %d", h, e)
	}
	return firstBytes(b...)
}

// frontBytes answers the bytes of f.
func frontBytes(t *testing.T, f api.Front) []byte {
	t.Helper()
	m, e := front.Encode(f)
	if e != api.OK {
		t.Fatalf("Encode(%v) is %d", f, e)
	}
	return frame.Bytes(m)
}

// typed answers the bytes of a message of this type, which may be 0.
func typed(kind byte, body ...byte) []byte {
	return append([]byte{kind}, firstBytes(body...)...)
}

// hellos are first messages of each code.
func hellos() []api.Hello {
	return []api.Hello{
		{Code: api.CodeSSL},
		{Code: api.Version},
		{Code: api.CodeCancel, Process: 1<<32 - 1, Secret: 7919},
		{Code: api.Version, Params: []api.Pair{{Name: "user", Value: "a"}, {Name: "database", Value: ""}, {Name: "user", Value: "b"}}},
	}
}

// fronts are messages of each kind that is served.
func fronts() []api.Front {
	return []api.Front{
		{Kind: 'P', Name: "a", Text: "select 1", OIDs: []int{23, 1<<32 - 1}},
		{Kind: 'P'},
		{Kind: 'B', Portal: "x", Name: "a", Formats: []int{1}, Params: []api.Cell{{Null: true}, {}, {Bytes: []byte("\x00v")}}, Results: []int{0, 65535}},
		{Kind: 'D', What: 'S', Name: "a"}, {Kind: 'D', What: 'P', Portal: "x"},
		{Kind: 'E', Portal: "x", Max: -1}, {Kind: 'H'},
		{Kind: 'C', What: 'S', Name: "a"}, {Kind: 'C', What: 'P', Portal: "x"},
		{Kind: 'Q', Text: "begin"}, {Kind: 'S'}, {Kind: 'X'},
	}
}

// wrongFirsts are bodies of first messages that are none, each with its fault.
func wrongFirsts() map[string]Item {
	return map[string]Item{
		"": violation(), "\x00": violation(), "\x00\x03\x00": violation(),
		"\x00\x03\x00\x00": violation(), "\x00\x03\x00\x00a\x00": violation(), "\x00\x03\x00\x00a\x00b\x00": violation(), "\x00\x03\x00\x00\x00\x00": violation(),
		"\x04\xd2\x16\x2f\x00": violation(), "\x04\xd2\x16\x2e\x00\x00\x00\x01": violation(), "\x04\xd2\x16\x2e\x00\x00\x00\x01\x00\x00\x00\x01\x00": violation(),
		"\x00\x03\x00\x01\x00": unserved(), "\x00\x02\x00\x00": unserved(), "\x00\x00\x00\x00": unserved(), "\x04\xd2\x16\x30": unserved(), "\xff\xff\xff\xff\xff": unserved(),
	}
}

// wrongBodies are bodies that no message of these types has.
func wrongBodies() []api.Msg {
	return []api.Msg{
		{Type: 'S', Body: []byte{0}}, {Type: 'H', Body: []byte{0}}, {Type: 'X', Body: []byte("x")},
		{Type: 'Q'}, {Type: 'Q', Body: []byte("begin")}, {Type: 'Q', Body: []byte("a\x00b\x00")},
		{Type: 'P', Body: []byte("a\x00b\x00")}, {Type: 'P', Body: []byte("a\x00b\x00\x00\x01")},
		{Type: 'B'}, {Type: 'E', Body: []byte("\x00\x00\x00")}, {Type: 'D', Body: []byte("Qa\x00")}, {Type: 'C', Body: []byte("\x00a\x00")}, {Type: 'C', Body: []byte("S")},
	}
}

// P39.1: New takes what frame's takes, and refuses what that refuses.
func TestNew(t *testing.T) {
	const top = 4 * api.MaxMessage
	numbers := []int{math.MinInt, -1, 0, 3, 4, 5, 6, 100, 101, api.MaxMessage - 1, api.MaxMessage, api.MaxMessage + 1, top, top + 1, math.MaxInt}
	for _, most := range numbers {
		for _, room := range numbers {
			_, want := frame.New(most, room, true)
			c, e := New(most, room)
			if e != want || (c == nil) != (want != api.OK) || c.Size() != 0 {
				t.Errorf("New(%d, %d) is %v, %d, not %d", most, room, c, e, want)
			}
		}
	}
	for _, c := range [][2]int{{3, 100}, {api.MaxMessage + 1, top}, {100, 100}, {100, top + 1}} {
		if got, e := New(c[0], c[1]); got != nil || e != api.ErrArg {
			t.Errorf("New(%d, %d) is %v, %d", c[0], c[1], got, e)
		}
	}
}

// P39.1: Feed takes all or nothing, by the room that was told; what is taken makes room.
func TestFeedFull(t *testing.T) {
	c := made(t, 10, 12)
	c.Begin()
	if e := c.Feed(make([]byte, 13)); e != api.ErrFull || c.Size() != 0 {
		t.Fatalf("Feed of one too many is %d, Size %d", e, c.Size())
	}
	feed(t, c, []byte("S\x00\x00\x00\x04H\x00\x00\x00\x04X\x00")...)
	if e := c.Feed([]byte{0}); e != api.ErrFull || c.Size() != 12 {
		t.Fatalf("Feed without room is %d, Size %d", e, c.Size())
	}
	feed(t, c)
	next(t, "S", c, Item{Kind: Message, Front: api.Front{Kind: 'S'}}, 5)
	if e := c.Feed(make([]byte, 6)); e != api.ErrFull || c.Size() != 7 {
		t.Fatalf("Feed of one too many behind a Take is %d, Size %d", e, c.Size())
	}
	feed(t, c, 0, 0, 4)
	next(t, "H", c, Item{Kind: Message, Front: api.Front{Kind: 'H'}}, 5)
	next(t, "X", c, Item{Kind: Message, Front: api.Front{Kind: 'X'}}, 5)
	next(t, "the end", c, Item{}, 0)
}

// P39.1: as long as Begin was not called, each message is a First, however many come; the chapter's example is one of them.
func TestFirst(t *testing.T) {
	c := made(t, 100, 300)
	next(t, "nothing fed", c, Item{}, 0)
	for _, h := range hellos() {
		feed(t, c, helloBytes(t, h)...)
	}
	for _, h := range hellos() {
		next(t, "a first message", c, Item{Kind: First, Hello: h}, len(helloBytes(t, h)))
	}
	next(t, "the end", c, Item{}, 0)
}

// P39.1: the kinds are told apart, and Nothing is the zero.
func TestKinds(t *testing.T) {
	if l := []int{Nothing, First, Message, Fault}; !slices.Equal(l, []int{0, 1, 2, 3}) {
		t.Fatal(l)
	}
}

// P39.1: behind Begin each message is a Message, of every kind that is served.
func TestMessage(t *testing.T) {
	for i, f := range fronts() {
		all := slices.Concat(frontBytes(t, f), frontBytes(t, fronts()[0]))
		c := begun(t, all...)
		next(t, "a message", c, Item{Kind: Message, Front: f}, len(frontBytes(t, f)))
		if i%2 == 0 {
			c.Begin()
		}
		next(t, "the one behind", c, Item{Kind: Message, Front: fronts()[0]}, c.Size())
		next(t, "the end", c, Item{}, 0)
	}
}

// P39.1: what is not whole is Nothing, byte by byte, ahead of Begin and behind it.
func TestNotWhole(t *testing.T) {
	for _, h := range hellos() {
		c := made(t, 100, 300)
		for _, b := range helloBytes(t, h) {
			next(t, "a first message that is not whole", c, Item{}, 0)
			feed(t, c, b)
		}
		next(t, "a first message", c, Item{Kind: First, Hello: h}, c.Size())
	}
	for _, f := range fronts() {
		c := begun(t)
		for _, b := range frontBytes(t, f) {
			next(t, "a message that is not whole", c, Item{}, 0)
			feed(t, c, b)
		}
		next(t, "a message", c, Item{Kind: Message, Front: f}, c.Size())
	}
}

// P39.1: a first message that hello refuses is a Fault, and gone with Take; what is behind it is still there.
func TestFirstRefused(t *testing.T) {
	for body, want := range wrongFirsts() {
		c := made(t, 100, 300)
		feed(t, c, slices.Concat(firstBytes([]byte(body)...), helloBytes(t, hellos()[0]))...)
		next(t, "the body "+body, c, want, 4+len(body))
		next(t, "behind the body "+body, c, Item{Kind: First, Hello: hellos()[0]}, 8)
		next(t, "the end", c, Item{}, 0)
	}
}

// P39.1: of all types there are, those that are known but not served are one Fault, others another one; each is gone with Take.
func TestTypeRefused(t *testing.T) {
	for kind := range 256 {
		want := violation()
		switch front.Known(byte(kind)) {
		case 1:
			continue
		case 2:
			want = unserved()
		}
		for _, body := range []string{"", "\x00", "abc"} {
			c := begun(t, slices.Concat(typed(byte(kind), []byte(body)...), frontBytes(t, fronts()[0]))...)
			next(t, "the type "+string(rune(kind)), c, want, 5+len(body))
			next(t, "behind it", c, Item{Kind: Message, Front: fronts()[0]}, c.Size())
		}
	}
}

// P39.1: a body that front refuses is a Fault, and gone with Take.
func TestBodyRefused(t *testing.T) {
	for _, m := range wrongBodies() {
		c := begun(t, slices.Concat(frame.Bytes(m), frontBytes(t, fronts()[0]))...)
		next(t, "a wrong body", c, violation(), 5+len(m.Body))
		next(t, "behind it", c, Item{Kind: Message, Front: fronts()[0]}, c.Size())
	}
}

// P39.1: what the framer refuses is a Fault, of which nothing is gone: it stays, whatever comes, Begin, too.
func TestFramerRefused(t *testing.T) {
	for _, length := range []string{"\x00\x00\x00\x00", "\x00\x00\x00\x03", "\x00\x00\x00\x65", "\x00\x00\x01\x04", "\xff\xff\xff\xff"} {
		c := made(t, 100, 300)
		feed(t, c, []byte(length)...)
		next(t, "a first length", c, violation(), 0)
		feed(t, c, helloBytes(t, hellos()[0])...)
		next(t, "a first length, and more", c, violation(), 0)
		c.Begin()
		next(t, "a first length, and Begin", c, violation(), 0)

		c = begun(t, append([]byte("S\x00\x00\x00\x04p"), length[:3]...)...)
		next(t, "a message", c, Item{Kind: Message, Front: api.Front{Kind: 'S'}}, 5)
		next(t, "a length that is not there", c, Item{}, 0)
		feed(t, c, []byte(length[3:])...)
		next(t, "a length", c, violation(), 0)
		feed(t, c, frontBytes(t, fronts()[0])...)
		next(t, "a length, and more", c, violation(), 0)
	}
}

// P39.1: messages are as long as New says, and no longer.
func TestMost(t *testing.T) {
	f := api.Front{Kind: 'Q', Text: strings.Repeat("q", 15)}
	for most, want := range map[int]Item{20: {Kind: Message, Front: f}, 19: violation()} {
		c := made(t, most, 100)
		c.Begin()
		feed(t, c, frontBytes(t, f)...)
		if got := c.Take(); !same(got, want) {
			t.Errorf("with %d at most it is %+v", most, got)
		}
	}
}

// P39.1: what no call made answers ErrNil, Nothing, 0, and stays so behind Begin.
func TestNotMade(t *testing.T) {
	for _, c := range []*Client{nil, {}, new(Client)} {
		for range 2 {
			for _, b := range []string{"", "S\x00\x00\x00\x04", string(make([]byte, 1<<20))} {
				if e := c.Feed([]byte(b)); e != api.ErrNil {
					t.Errorf("Feed of %d bytes is %d", len(b), e)
				}
			}
			if a, b, n := c.Peek(), c.Take(), c.Size(); !same(a, Item{}) || !same(b, Item{}) || n != 0 {
				t.Errorf("Peek is %+v, Take %+v, Size %d", a, b, n)
			}
			c.Begin()
		}
	}
}

// P39.1: what is fed is neither kept nor changed, its spare room included.
func TestFeedApart(t *testing.T) {
	f := api.Front{Kind: 'Q', Text: "begin"}
	b := append(frontBytes(t, f), "rest"...)
	old := slices.Clone(b)
	c := begun(t, b[:len(b)-4]...)
	if !bytes.Equal(b, old) {
		t.Fatalf("the bytes are %q", b)
	}
	clear(b)
	next(t, "what was fed", c, Item{Kind: Message, Front: f}, c.Size())
}

// P39.1: what is answered is not shared with what stands within, nor is one answer with another.
func TestItemApart(t *testing.T) {
	f := fronts()[2]
	c := begun(t, slices.Concat(frontBytes(t, f), frontBytes(t, f))...)
	spoil := func(i Item) {
		i.Front.Formats[0], i.Front.Results[0] = 9, 9
		i.Front.Params[2].Bytes[1] = 'w'
		_ = append(i.Front.Params[2].Bytes, "more than there is room for"...)
		i.Front.Params[0] = api.Cell{}
	}
	spoil(c.Peek())
	one := c.Take()
	spoil(c.Peek())
	if !same(one, Item{Kind: Message, Front: f}) {
		t.Fatalf("what was taken is %+v now", one)
	}
	spoil(one)
	next(t, "behind it", c, Item{Kind: Message, Front: f}, c.Size())

	h := hellos()[3]
	c = made(t, 100, 300)
	feed(t, c, helloBytes(t, h)...)
	c.Peek().Hello.Params[0].Value = "z"
	next(t, "a first message", c, Item{Kind: First, Hello: h}, c.Size())
}

// script answers bytes, and the items that they are; the last one may be of a length that may not be, behind which all is lost.
func script(t *testing.T, r *rand.Rand) ([]byte, []Item) {
	t.Helper()
	var all []byte
	var items []Item
	add := func(b []byte, i Item) {
		all, items = append(all, b...), append(items, i)
	}
	for range r.Intn(3) {
		add(helloBytes(t, api.Hello{Code: api.CodeSSL}), Item{Kind: First, Hello: api.Hello{Code: api.CodeSSL}})
	}
	if r.Intn(8) == 0 {
		add([]byte{0, 0, 0, byte(r.Intn(4))}, violation())
		return append(all, "anything"...), items
	}
	h := hellos()[1+2*r.Intn(2)]
	add(helloBytes(t, h), Item{Kind: First, Hello: h})
	for range r.Intn(12) {
		switch r.Intn(6) {
		case 0:
			add(typed("Fcdfp"[r.Intn(5)], all[:r.Intn(len(all))]...), unserved())
		case 1:
			m := wrongBodies()[r.Intn(len(wrongBodies()))]
			add(frame.Bytes(m), violation())
		default:
			f := fronts()[r.Intn(len(fronts()))]
			add(frontBytes(t, f), Item{Kind: Message, Front: f})
		}
	}
	if r.Intn(3) == 0 {
		add(append([]byte{'Q'}, 0, byte(1+r.Intn(255)), byte(r.Intn(256)), byte(r.Intn(256))), violation())
		return append(all, "anything"...), items
	}
	return all, items
}

// takeAll adds what is there to items, and tells whether it ends with what stays: a fault of the framer.
func takeAll(t *testing.T, c *Client, items []Item) ([]Item, bool) {
	t.Helper()
	for {
		i, had := c.Peek(), c.Size()
		if got := c.Take(); !same(got, i) {
			t.Fatalf("Take is %+v, and Peek was %+v", got, i)
		}
		if i.Kind == Nothing {
			return items, false
		}
		items = append(items, i)
		if c.Size() == had {
			return items, true
		}
		if i.Kind == First && i.Hello.Code == api.Version {
			c.Begin()
		}
	}
}

// run feeds all in pieces, and takes what is there behind each, or at the end alone, if it is lazy; Begin is called behind a first message of Version.
func run(t *testing.T, all []byte, lazy bool, piece func() int) []Item {
	t.Helper()
	c := made(t, 4000, 20000)
	var items []Item
	for over := false; len(all) > 0 && !over; {
		n := min(piece(), len(all))
		feed(t, c, all[:n]...)
		all = all[n:]
		if !lazy || len(all) == 0 {
			items, over = takeAll(t, c, items)
		}
	}
	return items
}

// P39.2: in whatever pieces the bytes come, and whenever they are looked at, the items are the same.
func TestPieces(t *testing.T) {
	r := rand.New(rand.NewSource(39))
	for range 500 {
		all, want := script(t, r)
		most := 1 + r.Intn(60)
		for i, piece := range []func() int{
			func() int { return len(all) }, func() int { return 1 }, func() int { return 2 }, func() int { return 1 + r.Intn(most) },
		} {
			for _, lazy := range []bool{false, true} {
				if got := run(t, all, lazy, piece); !slices.EqualFunc(got, want, same) {
					t.Fatalf("%q in the pieces %d are %+v, not %+v", all, i, got, want)
				}
			}
		}
	}
}
