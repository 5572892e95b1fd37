package frame

import (
	"bytes"
	"math"
	"testing"

	"remuda/api"
)

// made is a framer that New must make.
func made(t *testing.T, most, room int, hello bool) *Framer {
	t.Helper()
	f, e := New(most, room, hello)
	if f == nil || e != api.OK {
		t.Fatalf("New(%d, %d, %v) is %v, %d", most, room, hello, f, e)
	}
	return f
}

// feed feeds what there must be room for.
func feed(t *testing.T, f *Framer, b ...byte) {
	t.Helper()
	if e := f.Feed(b); e != api.OK {
		t.Fatalf("Feed of %d bytes is %d", len(b), e)
	}
}

// same holds a message that is answered against the one that must be.
func same(t *testing.T, what string, m api.Msg, ok bool, e api.Errno, want api.Msg) {
	t.Helper()
	if !ok || e != api.OK || m.Type != want.Type || !bytes.Equal(m.Body, want.Body) {
		t.Fatalf("%s is %v, %v, %d, not %v", what, m, ok, e, want)
	}
}

// checkNext holds that the first message is want, that Peek leaves it, and that Next takes it.
func checkNext(t *testing.T, f *Framer, want api.Msg) {
	t.Helper()
	size := f.Size()
	for range 2 {
		m, ok, e := f.Peek()
		same(t, "Peek", m, ok, e, want)
		if f.Size() != size {
			t.Fatalf("Peek has taken %d bytes", size-f.Size())
		}
	}
	m, ok, e := f.Next()
	same(t, "Next", m, ok, e, want)
	if f.Size() != size-len(Bytes(want)) {
		t.Fatalf("Next has taken %d bytes of %v", size-f.Size(), want)
	}
}

// checkNone holds that there is no message, with the error that is told of it, and that asking takes nothing.
func checkNone(t *testing.T, what string, f *Framer, want api.Errno, size int) {
	t.Helper()
	for range 2 {
		m, ok, e := f.Peek()
		if m.Type != 0 || len(m.Body) != 0 || ok || e != want {
			t.Fatalf("%s: Peek is %v, %v, %d, not %d", what, m, ok, e, want)
		}
		m, ok, e = f.Next()
		if m.Type != 0 || len(m.Body) != 0 || ok || e != want {
			t.Fatalf("%s: Next is %v, %v, %d, not %d", what, m, ok, e, want)
		}
	}
	if f.Size() != size {
		t.Fatalf("%s: Size is %d, not %d", what, f.Size(), size)
	}
}

// P4.1: a message's bytes are its type, its length, its body; without a type those of 0.
func TestBytes(t *testing.T) {
	for _, c := range []struct {
		m    api.Msg
		want []byte
	}{
		{api.Msg{Type: 'S'}, []byte{'S', 0, 0, 0, 4}},
		{api.Msg{Type: 'S', Body: []byte{}}, []byte{'S', 0, 0, 0, 4}},
		{api.Msg{}, []byte{0, 0, 0, 4}},
		{api.Msg{Type: 'Q', Body: []byte{0}}, []byte{'Q', 0, 0, 0, 5, 0}},
		{api.Msg{Type: 255, Body: []byte{7, 8}}, []byte{255, 0, 0, 0, 6, 7, 8}},
		{api.Msg{Body: []byte{1, 2, 3}}, []byte{0, 0, 0, 7, 1, 2, 3}},
	} {
		if got := Bytes(c.m); !bytes.Equal(got, c.want) {
			t.Errorf("Bytes(%v) is %v", c.m, got)
		}
	}
}

// P4.1: a body of any length has its length told, also one that no framer takes.
func TestBytesLong(t *testing.T) {
	for _, c := range []struct {
		n    int
		head []byte
	}{
		{251, []byte{'D', 0, 0, 0, 255}}, {252, []byte{'D', 0, 0, 1, 0}},
		{65532, []byte{'D', 0, 1, 0, 0}}, {70000, []byte{'D', 0, 1, 17, 116}}, {1 << 24, []byte{'D', 1, 0, 0, 4}},
	} {
		body := bytes.Repeat([]byte{9}, c.n)
		got := Bytes(api.Msg{Type: 'D', Body: body})
		if !bytes.Equal(got[:5], c.head) || !bytes.Equal(got[5:], body) {
			t.Errorf("Bytes of a body of %d begins with %v, and has %d bytes", c.n, got[:5], len(got))
		}
	}
}

// P4.1: what Bytes is handed stays, its spare room included, and is not shared with the answer.
func TestBytesApart(t *testing.T) {
	room := []byte{1, 2, 3, 4}
	got := Bytes(api.Msg{Type: 'Q', Body: room[:2]})
	for i := range got {
		got[i] = 99
	}
	_ = append(got, 98)
	if !bytes.Equal(room, []byte{1, 2, 3, 4}) {
		t.Errorf("the body is %v", room)
	}
}

// P4.1: New takes most from 4 to MaxMessage, and room from most and 1 to 4 times MaxMessage.
func TestNewBounds(t *testing.T) {
	const top = 4 * api.MaxMessage
	for _, hello := range []bool{false, true} {
		for _, c := range [][2]int{
			{4, 5}, {4, 6}, {4, top}, {5, 6}, {100, 101}, {api.MaxMessage, api.MaxMessage + 1}, {api.MaxMessage, top}, {api.MaxMessage - 1, top - 1},
		} {
			if f := made(t, c[0], c[1], hello); f.Size() != 0 {
				t.Errorf("New(%d, %d) has %d bytes", c[0], c[1], f.Size())
			}
		}
		for _, c := range [][2]int{
			{3, 100}, {0, 100}, {-1, 100}, {-5, -4}, {math.MinInt, 100}, {api.MaxMessage + 1, top}, {math.MaxInt, math.MaxInt}, {math.MaxInt, math.MinInt},
			{4, 4}, {4, 3}, {4, 0}, {4, -1}, {4, math.MinInt}, {100, 100}, {4, top + 1}, {4, math.MaxInt}, {api.MaxMessage, api.MaxMessage},
			{api.MaxMessage, top + 1}, {0, 0}, {3, 4},
		} {
			if f, e := New(c[0], c[1], hello); f != nil || e != api.ErrArg {
				t.Errorf("New(%d, %d) is %v, %d", c[0], c[1], f, e)
			}
		}
	}
}

// P4.1: Feed takes as many bytes as there is room for, all or none; Size tells how many there are.
func TestFeedFull(t *testing.T) {
	f := made(t, 6, 10, false)
	if e := f.Feed(make([]byte, 11)); e != api.ErrFull || f.Size() != 0 {
		t.Fatalf("Feed of one too many is %d, Size %d", e, f.Size())
	}
	feed(t, f, 'A', 0, 0, 0, 6, 1, 2)
	if e := f.Feed([]byte{'B', 0, 0, 0}); e != api.ErrFull || f.Size() != 7 {
		t.Fatalf("Feed of one too many behind others is %d, Size %d", e, f.Size())
	}
	feed(t, f, 'C', 0, 0)
	for _, n := range []int{1, 2, 100000} {
		if e := f.Feed(make([]byte, n)); e != api.ErrFull || f.Size() != 10 {
			t.Fatalf("Feed of %d into no room is %d, Size %d", n, e, f.Size())
		}
	}
	feed(t, f)
	checkNext(t, f, api.Msg{Type: 'A', Body: []byte{1, 2}})
	if e := f.Feed(make([]byte, 8)); e != api.ErrFull || f.Size() != 3 {
		t.Fatalf("Feed of one too many behind Next is %d, Size %d", e, f.Size())
	}
	feed(t, f, 0, 4, 'D', 0, 0, 0, 4)
	checkNext(t, f, api.Msg{Type: 'C'})
	checkNext(t, f, api.Msg{Type: 'D'})
	checkNone(t, "the end", f, api.OK, 0)
}

// P4.1: all the room that may be is there, and no more.
func TestFeedMost(t *testing.T) {
	f := made(t, api.MaxMessage, 4*api.MaxMessage, false)
	feed(t, f, make([]byte, 4*api.MaxMessage)...)
	if e := f.Feed([]byte{1}); e != api.ErrFull || f.Size() != 4*api.MaxMessage {
		t.Fatalf("Feed of one too many is %d, Size %d", e, f.Size())
	}
}

// P4.1: what is fed is not kept, nor changed, nor its spare room read.
func TestFeedApart(t *testing.T) {
	f := made(t, 20, 40, false)
	room := []byte{'Q', 0, 0, 0, 6, 1, 2, 3}
	feed(t, f, room[:6]...)
	copy(room, []byte{9, 9, 9, 9, 9, 9, 9})
	if e := f.Feed(room[6:7]); e != api.OK || f.Size() != 7 {
		t.Fatalf("Feed is %d, Size %d", e, f.Size())
	}
	room[6] = 10
	m, _, _ := f.Next()
	if !bytes.Equal(m.Body, []byte{1, 9}) {
		t.Fatalf("the body is %v, once the bytes were changed", m.Body)
	}
	m.Body[0], m.Body[1] = 77, 77
	if !bytes.Equal(room, []byte{9, 9, 9, 9, 9, 9, 10, 3}) {
		t.Fatalf("what was handed in is %v", room)
	}
}

// P4.2: messages with types, in order: an empty body, bytes 0, a type 0 and any other one.
func TestTyped(t *testing.T) {
	f := made(t, 20, 100, false)
	feed(t, f, 'S', 0, 0, 0, 4, 'Q', 0, 0, 0, 6, 0, 7, 0, 0, 0, 0, 5, 8, 255, 0, 0, 0, 4)
	for _, m := range []api.Msg{{Type: 'S'}, {Type: 'Q', Body: []byte{0, 7}}, {Type: 0, Body: []byte{8}}, {Type: 255}} {
		m1, ok, e := f.Peek()
		same(t, "Peek", m1, ok, e, m)
		m2, ok, e := f.Next()
		same(t, "Next", m2, ok, e, m)
	}
	checkNone(t, "the end", f, api.OK, 0)
}

// P4.2: with hello messages have no types until Begin, however many come.
func TestHello(t *testing.T) {
	f := made(t, 20, 100, true)
	feed(t, f, 0, 0, 0, 8, 1, 2, 3, 4, 0, 0, 0, 4, 0, 0, 0, 5, 'x', 'S', 0, 0, 0, 4, 'Q', 0, 0, 0, 5, 9)
	checkNext(t, f, api.Msg{Body: []byte{1, 2, 3, 4}})
	checkNext(t, f, api.Msg{})
	checkNext(t, f, api.Msg{Body: []byte{'x'}})
	f.Begin()
	checkNext(t, f, api.Msg{Type: 'S'})
	f.Begin()
	checkNext(t, f, api.Msg{Type: 'Q', Body: []byte{9}})
	checkNone(t, "the end", f, api.OK, 0)
}

// P4.2: Begin holds from then on: what was not taken ahead of it is read with types.
func TestBegin(t *testing.T) {
	f := made(t, 20, 100, true)
	feed(t, f, 0, 0, 0, 5)
	checkNone(t, "without a type", f, api.OK, 4)
	f.Begin()
	checkNone(t, "with a type", f, api.OK, 4)
	feed(t, f, 6, 1, 2, 3)
	checkNone(t, "with a length of 1286", f, api.ErrLong, 8)
}

// P4.2: without hello Begin changes nothing.
func TestBeginTyped(t *testing.T) {
	f := made(t, 20, 100, false)
	f.Begin()
	feed(t, f, 'S', 0, 0, 0, 4)
	checkNext(t, f, api.Msg{Type: 'S'})
}

// P4.2: a message that is not whole is none, up to its last byte.
func TestNotWhole(t *testing.T) {
	for _, c := range []struct {
		hello bool
		m     api.Msg
	}{
		{false, api.Msg{Type: 'S'}}, {false, api.Msg{Type: 'Q', Body: []byte{1, 2, 3}}}, {true, api.Msg{}}, {true, api.Msg{Body: []byte{1, 2, 3}}},
	} {
		f := made(t, 20, 100, c.hello)
		for i, b := range Bytes(c.m) {
			checkNone(t, "not whole", f, api.OK, i)
			feed(t, f, b)
		}
		checkNext(t, f, c.m)
	}
}

// P4.2: a length below 4 is ErrForm, one above most ErrLong, as soon as it is there, and not ahead.
func TestWrongLength(t *testing.T) {
	for _, c := range []struct {
		most   int
		length []byte
		want   api.Errno
	}{
		{20, []byte{0, 0, 0, 0}, api.ErrForm}, {20, []byte{0, 0, 0, 1}, api.ErrForm}, {20, []byte{0, 0, 0, 3}, api.ErrForm},
		{20, []byte{0, 0, 0, 21}, api.ErrLong}, {20, []byte{0, 0, 1, 4}, api.ErrLong}, {20, []byte{0, 1, 0, 4}, api.ErrLong},
		{20, []byte{128, 0, 0, 0}, api.ErrLong}, {20, []byte{127, 255, 255, 255}, api.ErrLong}, {20, []byte{255, 255, 255, 255}, api.ErrLong},
		{4, []byte{0, 0, 0, 3}, api.ErrForm}, {4, []byte{0, 0, 0, 5}, api.ErrLong},
		{api.MaxMessage, []byte{0, 1, 0, 1}, api.ErrLong}, {api.MaxMessage, []byte{0, 0, 0, 3}, api.ErrForm},
	} {
		for _, hello := range []bool{false, true} {
			f := made(t, c.most, 4*api.MaxMessage, hello)
			head := append([]byte{}, c.length...)
			if !hello {
				head = append([]byte{'Q'}, head...)
			}
			feed(t, f, head[:len(head)-1]...)
			checkNone(t, "ahead of the length", f, api.OK, len(head)-1)
			feed(t, f, head[len(head)-1])
			checkNone(t, "behind the length", f, c.want, len(head))
		}
	}
}

// P4.2: a length of 4, and one of most, are right.
func TestRightLength(t *testing.T) {
	for _, hello := range []bool{false, true} {
		for _, most := range []int{4, 5, 20, 256, 65535, api.MaxMessage} {
			f := made(t, most, most+1, hello)
			for _, n := range []int{0, most - 4} {
				m := api.Msg{Body: bytes.Repeat([]byte{5}, n)}
				if !hello {
					m.Type = 'd'
				}
				feed(t, f, Bytes(m)...)
				checkNext(t, f, m)
			}
			checkNone(t, "the end", f, api.OK, 0)
		}
	}
}

// wrong is a framer without types that was told a wrong length, by Peek or by Next, and that length's error.
func wrong(t *testing.T, long, peek bool) (*Framer, api.Errno) {
	t.Helper()
	f, want := made(t, 20, 40, true), api.ErrForm
	if long {
		feed(t, f, 0, 0, 0, 21)
		want = api.ErrLong
	} else {
		feed(t, f, 0, 0, 0, 0)
	}
	var e api.Errno
	if peek {
		_, _, e = f.Peek()
	} else {
		_, _, e = f.Next()
	}
	if e != want {
		t.Fatalf("the wrong length is %d, not %d", e, want)
	}
	return f, want
}

// P4.2: the error stays, whatever comes, and whether messages have types or not; bytes come in, up to the room.
func TestWrongStays(t *testing.T) {
	for i := range 4 {
		f, want := wrong(t, i&1 != 0, i&2 != 0)
		f.Begin()
		checkNone(t, "with types", f, want, 4)
		feed(t, f, 4, 'S', 0, 0, 0, 4)
		checkNone(t, "with a message behind", f, want, 10)
		f, want = wrong(t, i&1 != 0, i&2 != 0)
		feed(t, f, 5, 9, 'S', 0, 0, 0, 4)
		checkNone(t, "with more behind", f, want, 11)
		f.Begin()
		checkNone(t, "with types, and more behind", f, want, 11)
		if e := f.Feed(make([]byte, 30)); e != api.ErrFull {
			t.Fatalf("Feed of one too many is %d", e)
		}
		feed(t, f, make([]byte, 29)...)
		checkNone(t, "without room", f, want, 40)
	}
}

// P4.2: messages ahead of a wrong length are there; then its error is the same.
func TestWrongBehind(t *testing.T) {
	f := made(t, 20, 40, false)
	feed(t, f, 'Q', 0, 0, 0, 5, 7, 'P', 0, 0, 0, 3, 'S', 0, 0, 0, 99)
	checkNext(t, f, api.Msg{Type: 'Q', Body: []byte{7}})
	checkNone(t, "behind a message", f, api.ErrForm, 10)
}

// P4.1, P4.2: what no call made answers ErrNil, no message, 0, and Begin does nothing.
func TestNotMade(t *testing.T) {
	for _, f := range []*Framer{nil, {}} {
		f.Begin()
		for _, b := range [][]byte{nil, {}, {'S', 0, 0, 0, 4}} {
			if e := f.Feed(b); e != api.ErrNil {
				t.Errorf("Feed(%v) is %d", b, e)
			}
		}
		checkNone(t, "not made", f, api.ErrNil, 0)
	}
}

// P4.2: what Peek answers is not shared with what stands within.
func TestPeekApart(t *testing.T) {
	f := made(t, 20, 40, false)
	feed(t, f, 'Q', 0, 0, 0, 7, 1, 2, 3, 'S', 0, 0, 0, 4)
	m, _, _ := f.Peek()
	for i := range m.Body {
		m.Body[i] = 99
	}
	_ = append(m.Body, 98, 97, 96, 95, 94)
	checkNext(t, f, api.Msg{Type: 'Q', Body: []byte{1, 2, 3}})
	checkNext(t, f, api.Msg{Type: 'S'})
}

// P4.2: what Next answers is not shared, and what comes later does not change it.
func TestNextApart(t *testing.T) {
	f := made(t, 20, 40, false)
	feed(t, f, 'Q', 0, 0, 0, 7, 1, 2, 3, 'X', 0, 0, 0, 4, 'R', 0, 0, 0, 5, 4)
	q, _, _ := f.Next()
	q.Body[2] = 99
	_ = append(q.Body, 98, 97, 96, 95, 94, 93)
	x, ok, e := f.Next()
	same(t, "the next one", x, ok, e, api.Msg{Type: 'X'})
	_ = append(x.Body, 98, 97, 96, 95, 94, 93)
	r, ok, e := f.Next()
	same(t, "the one behind", r, ok, e, api.Msg{Type: 'R', Body: []byte{4}})
	_ = append(r.Body, 92)
	for range 10 {
		feed(t, f, 'Z', 0, 0, 0, 5, 6)
		checkNext(t, f, api.Msg{Type: 'Z', Body: []byte{6}})
	}
	if !bytes.Equal(q.Body, []byte{1, 2, 99}) || !bytes.Equal(r.Body, []byte{4}) {
		t.Errorf("the bodies are %v and %v later", q.Body, r.Body)
	}
}

// script is messages without types, of which the last one begins those with types, and these; and all their bytes.
func script() (hello, typed []api.Msg, all []byte) {
	hello = []api.Msg{{Body: []byte{4, 210, 22, 47}}, {}, {Body: []byte{0, 3, 0, 0, 'u', 0, 'a', 0, 0}}}
	typed = []api.Msg{
		{Type: 'P', Body: []byte("a\x00select 1\x00\x00\x00")}, {Type: 'S'}, {Type: 'Q', Body: []byte{0}}, {Type: 255, Body: []byte{0, 0, 0, 4}},
		{Type: 'B', Body: bytes.Repeat([]byte{1, 0}, 30)}, {Type: 'S'}, {Type: 'X'},
	}
	for _, l := range [][]api.Msg{hello, typed} {
		for _, m := range l {
			all = append(all, Bytes(m)...)
		}
	}
	return hello, typed, all
}

// drain takes all messages that are whole, and begins those with types behind the third one.
func drain(t *testing.T, f *Framer, got []api.Msg) []api.Msg {
	t.Helper()
	for {
		m, ok, e := f.Next()
		if e != api.OK {
			t.Fatalf("behind %d messages: %d", len(got), e)
		}
		if !ok {
			return got
		}
		if got = append(got, m); len(got) == 3 {
			f.Begin()
		}
	}
}

// checkScript holds that the script's messages come out, if its bytes come in pieces that end where cuts says.
func checkScript(t *testing.T, cuts func(at int) int, late bool) {
	t.Helper()
	hello, typed, all := script()
	want := append(hello, typed...)
	f := made(t, 64, len(all), true)
	var got []api.Msg
	for at := 0; at < len(all); {
		end := min(cuts(at), len(all))
		feed(t, f, all[at:end]...)
		at = end
		if !late {
			got = drain(t, f, got)
		}
	}
	got = drain(t, f, got)
	if len(got) != len(want) || f.Size() != 0 {
		t.Fatalf("%d messages of %d, Size %d", len(got), len(want), f.Size())
	}
	for i := range want {
		same(t, "the message", got[i], true, api.OK, want[i])
	}
}

// P4.3: the messages are the same, in one piece, in pieces of any size, and in any two; taken as they come, or all at the end.
func TestPieces(t *testing.T) {
	_, _, all := script()
	for _, late := range []bool{false, true} {
		for size := 1; size <= len(all); size++ {
			checkScript(t, func(at int) int { return at + size }, late)
		}
		for cut := 1; cut < len(all); cut++ {
			checkScript(t, func(at int) int {
				if at < cut {
					return cut
				}
				return len(all)
			}, late)
		}
		for seed := range 50 {
			checkScript(t, func(at int) int { return at + 1 + (at*31+seed*17)%23 }, late)
		}
	}
}

// P4.3: bytes that come between Next and Begin are read as those that came with the first message are, or behind Begin.
func TestPiecesBegin(t *testing.T) {
	all := []byte{0, 0, 0, 5, 9, 'Q', 0, 0, 0, 6, 7, 8}
	for one := 5; one <= len(all); one++ {
		for two := one; two <= len(all); two++ {
			f := made(t, 20, 40, true)
			feed(t, f, all[:one]...)
			m, ok, e := f.Next()
			same(t, "the first one", m, ok, e, api.Msg{Body: []byte{9}})
			feed(t, f, all[one:two]...)
			f.Begin()
			feed(t, f, all[two:]...)
			checkNext(t, f, api.Msg{Type: 'Q', Body: []byte{7, 8}})
			checkNone(t, "the end", f, api.OK, 0)
		}
	}
}

// P4.3: a wrong length is told the same in any pieces, behind the same messages.
func TestPiecesWrong(t *testing.T) {
	all := []byte{'S', 0, 0, 0, 4, 'Q', 0, 0, 0, 5, 0, 'P', 0, 0, 0, 65, 1, 2, 3, 'S', 0, 0, 0, 4}
	for size := 1; size <= len(all); size++ {
		f := made(t, 64, 100, false)
		count, last := 0, api.OK
		for at := 0; at < len(all); at += size {
			feed(t, f, all[at:min(at+size, len(all))]...)
			for {
				_, ok, e := f.Next()
				if last != api.OK && e != last {
					t.Fatalf("pieces of %d: %d behind %d", size, e, last)
				}
				last = e
				if !ok {
					break
				}
				count++
			}
		}
		if count != 2 || last != api.ErrLong || f.Size() != len(all)-11 {
			t.Fatalf("pieces of %d: %d messages, %d, Size %d", size, count, last, f.Size())
		}
	}
}
