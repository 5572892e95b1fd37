package serve

import (
	"bytes"
	"math"
	"slices"
	"strings"
	"testing"

	"remuda/api"
	"remuda/back"
	"remuda/engine"
	"remuda/fault"
	"remuda/frame"
	"remuda/front"
	"remuda/greet"
	"remuda/hello"
	"remuda/sess"
)

// Messages that are of no more than their kind.
var (
	sync  = api.Front{Kind: 'S'}
	flush = api.Front{Kind: 'H'}
	end   = api.Front{Kind: 'X'}
)

// some are parameters that may be said.
var some = []api.Pair{{Name: "server_version", Value: "16.0"}, {Name: "", Value: "x y"}, {Name: "z"}, {Name: "z"}}

// violation are the bytes of the fault that ends all.
var violation = fault.Fatal("08P01", "protocol violation")

// first answers the bytes of a first message.
func first(t *testing.T, h api.Hello) []byte {
	t.Helper()
	b, e := hello.Build(h)
	if e != api.OK {
		t.Fatalf("Build(%v) is %d", h, e)
	}
	return frame.Bytes(api.Msg{Body: b})
}

// version answers the bytes of a first message of Version.
func version(t *testing.T) []byte {
	t.Helper()
	return first(t, api.Hello{Code: api.Version, Params: []api.Pair{{Name: "user", Value: "a"}}})
}

// sent answers the bytes of l, one behind the other.
func sent(t *testing.T, l ...api.Front) []byte {
	t.Helper()
	var b []byte
	for _, f := range l {
		m, e := front.Encode(f)
		if e != api.OK {
			t.Fatalf("Encode(%v) is %d", f, e)
		}
		b = append(b, frame.Bytes(m)...)
	}
	return b
}

// feed checks that b is taken.
func feed(t *testing.T, s *Server, b []byte) {
	t.Helper()
	if e := s.Feed(b); e != api.OK {
		t.Fatalf("Feed of %d bytes is %d", len(b), e)
	}
}

// steps checks that a Step answers just f.
func steps(t *testing.T, s *Server, f api.Front) {
	t.Helper()
	if got, ok := s.Step(); !ok || !front.Same(got, f) {
		t.Fatalf("Step is %v, %v, not %v", got, ok, f)
	}
}

// stepsNone checks that a Step answers nothing.
func stepsNone(t *testing.T, s *Server) {
	t.Helper()
	if f, ok := s.Step(); ok || !front.Same(f, api.Front{}) {
		t.Fatalf("Step is %v, %v", f, ok)
	}
}

// taken answers the bytes of all that is to be taken.
func taken(t *testing.T, s *Server) []byte {
	t.Helper()
	var b []byte
	for range 4 * api.MaxMessage {
		m, ok := s.Take()
		if !ok {
			if m.Type != 0 || len(m.Body) != 0 {
				t.Fatalf("Take of nothing is %v", m)
			}
			return b
		}
		b = append(b, frame.Bytes(m)...)
	}
	t.Fatal("Take has no end")
	return nil
}

// takes checks that just these bytes are to be taken, and then nothing.
func takes(t *testing.T, s *Server, want []byte) {
	t.Helper()
	for range 2 {
		if got := taken(t, s); !bytes.Equal(got, want) {
			t.Fatalf("it said %q, not %q", got, want)
		}
		want = nil
	}
}

// waits checks that it is not Over, and that nothing is there to do or to take.
func waits(t *testing.T, s *Server) {
	t.Helper()
	for range 2 {
		stepsNone(t, s)
		takes(t, s, nil)
		if s.Over() {
			t.Fatal("it is Over")
		}
	}
}

// isOver checks that it is Over, says no more, and takes no bytes.
func isOver(t *testing.T, s *Server) {
	t.Helper()
	for _, b := range [][]byte{nil, {}, {'S', 0, 0, 0, 4}, make([]byte, 4*api.MaxMessage+1)} {
		if !s.Over() {
			t.Fatal("it is not Over")
		}
		if e := s.Feed(b); e != api.ErrState {
			t.Fatalf("Feed of %d bytes is %d, where it is Over", len(b), e)
		}
		stepsNone(t, s)
		takes(t, s, nil)
	}
}

// begun answers a server behind its first message, with all taken that it said.
func begun(t *testing.T, e *engine.Engine) *Server {
	t.Helper()
	s := New(e, nil, 0)
	feed(t, s, version(t))
	stepsNone(t, s)
	takes(t, s, greet.Bytes(nil, 0))
	waits(t, s)
	return s
}

// does checks that each of l is done as a session of other does it.
func does(t *testing.T, s *Server, other *sess.Session, l ...api.Front) {
	t.Helper()
	feed(t, s, sent(t, l...))
	for _, f := range l {
		steps(t, s, f)
		takes(t, s, back.Bytes(other.Do(f)...))
	}
}

// P31.1: a new server waits for the first message: it says nothing, is not Over, and its session is new.
func TestNew(t *testing.T) {
	s := New(engine.New(), some, 3)
	waits(t, s)
	if x := s.Session(); x == nil || x.Status() != 73 || x.Skips() || x.Over() || len(x.Names()) != 0 {
		t.Fatalf("the session is %v", x)
	}
	feed(t, s, nil)
	feed(t, s, version(t)[:len(version(t))-1])
	waits(t, s)
}

// P31.1: of a first message of Version is said what greet says of params and id; it is not answered.
func TestGreets(t *testing.T) {
	for _, params := range [][]api.Pair{nil, {}, some, {{}}, {{Name: "a\x00", Value: "b"}, {Name: "c", Value: "d"}, {Name: "e", Value: "\x00"}}} {
		for _, id := range []int{0, 1, 7, 1000, 1 << 20, 1<<20 + 1, -1, math.MinInt, math.MaxInt} {
			s := New(engine.New(), params, id)
			feed(t, s, version(t))
			takes(t, s, nil)
			stepsNone(t, s)
			takes(t, s, greet.Bytes(params, id))
			waits(t, s)
		}
	}
}

// P31.1: whatever params a first message of Version has, or none, it is one.
func TestGreetsAll(t *testing.T) {
	for _, params := range [][]api.Pair{nil, some[2:], {{Name: "user", Value: strings.Repeat("u", 60000)}}} {
		s := New(engine.New(), nil, 5)
		feed(t, s, first(t, api.Hello{Code: api.Version, Params: params}))
		stepsNone(t, s)
		takes(t, s, greet.Bytes(nil, 5))
		waits(t, s)
	}
}

// P31.1: once it has said what is said first, messages have types; what looks like a first message is one of them.
func TestTyped(t *testing.T) {
	s := begun(t, engine.New())
	feed(t, s, sent(t, sync))
	steps(t, s, sync)
	takes(t, s, []byte{'Z', 0, 0, 0, 5, 'I'})
	waits(t, s)
	// The first byte is a type, 0; the length of the rest is 8 times 256.
	feed(t, s, first(t, api.Hello{Code: api.CodeSSL}))
	waits(t, s)
	feed(t, s, make([]byte, 8*256))
	stepsNone(t, s)
	takes(t, s, violation)
	isOver(t, s)
}

// P31.1: of a wish for SSL nothing is said; the first message is still awaited.
func TestSSL(t *testing.T) {
	s := New(engine.New(), some, 4)
	for range 3 {
		feed(t, s, first(t, api.Hello{Code: api.CodeSSL}))
		waits(t, s)
	}
	feed(t, s, version(t))
	stepsNone(t, s)
	takes(t, s, greet.Bytes(some, 4))
	does(t, s, sess.New(engine.New()), sync)
	waits(t, s)
}

// P31.1: behind a wish for a cancel it is Over, and nothing is said.
func TestCancel(t *testing.T) {
	for _, ahead := range [][]byte{nil, first(t, api.Hello{Code: api.CodeSSL})} {
		s := New(engine.New(), some, 4)
		feed(t, s, append(ahead, first(t, api.Hello{Code: api.CodeCancel, Process: 5, Secret: 39595})...))
		feed(t, s, version(t))
		if len(ahead) > 0 {
			stepsNone(t, s)
		}
		stepsNone(t, s)
		takes(t, s, nil)
		isOver(t, s)
	}
}

// P31.1: behind a first message that hello refuses it is Over, and nothing is said.
func TestHelloRefused(t *testing.T) {
	for _, body := range [][]byte{
		{}, {0}, {0, 3, 0}, // Shorter than a code.
		{0, 0, 0, 0}, {0, 2, 0, 0, 0}, {0, 3, 0, 1, 0}, {4, 210, 22, 48}, // Codes that are not known.
		{0, 3, 0, 0}, {0, 3, 0, 0, 'a', 0}, {0, 3, 0, 0, 'a', 0, 'b', 0}, {0, 3, 0, 0, 0, 0}, // Pairs that do not end with b.
		{4, 210, 22, 47, 0}, {4, 210, 22, 46, 0, 0, 0, 1}, {4, 210, 22, 46, 0, 0, 0, 1, 0, 0, 0, 2, 0}, // More, or less, than a code has.
	} {
		s := New(engine.New(), some, 4)
		feed(t, s, frame.Bytes(api.Msg{Body: body}))
		feed(t, s, version(t))
		stepsNone(t, s)
		takes(t, s, nil)
		isOver(t, s)
	}
}

// P31.1: a length that the framer refuses, of a first message or of a later one, is told by the fault that ends all.
func TestFramerRefuses(t *testing.T) {
	for _, length := range [][]byte{{0, 0, 0, 0}, {0, 0, 0, 3}, {0, 1, 0, 1}, {1, 0, 0, 0}, {255, 255, 255, 255}} {
		s := New(engine.New(), some, 4)
		feed(t, s, length)
		stepsNone(t, s)
		takes(t, s, violation)
		isOver(t, s)

		s = begun(t, engine.New())
		feed(t, s, append([]byte{'S'}, length[:3]...))
		waits(t, s)
		feed(t, s, length[3:])
		stepsNone(t, s)
		takes(t, s, violation)
		isOver(t, s)
	}
}

// longest answers a Q whose message is as long as may be.
func longest() api.Front {
	return api.Front{Kind: 'Q', Text: strings.Repeat("q", api.MaxMessage-5)}
}

// P31.1: messages of MaxMessage bytes are served, the first one, too.
func TestLongest(t *testing.T) {
	b := first(t, api.Hello{Code: api.Version, Params: []api.Pair{{Name: "a", Value: strings.Repeat("v", api.MaxMessage-12)}}})
	if len(b) != api.MaxMessage {
		t.Fatalf("the first message has %d bytes", len(b))
	}
	s := New(engine.New(), nil, 0)
	feed(t, s, b)
	stepsNone(t, s)
	takes(t, s, greet.Bytes(nil, 0))
	does(t, s, sess.New(engine.New()), longest(), sync)
	waits(t, s)
}

// P31.1: there is room for 4 times MaxMessage, less what waits; where there is none, nothing is taken.
func TestRoom(t *testing.T) {
	s := begun(t, engine.New())
	syncs := bytes.Repeat(sent(t, sync), 4*api.MaxMessage)
	if e := s.Feed(syncs[:4*api.MaxMessage+1]); e != api.ErrFull {
		t.Fatalf("Feed of too much is %d", e)
	}
	waits(t, s)
	feed(t, s, syncs[:4*api.MaxMessage])
	if e := s.Feed([]byte{'S'}); e != api.ErrFull {
		t.Fatalf("Feed without room is %d", e)
	}
	feed(t, s, nil)
	steps(t, s, sync)
	if e := s.Feed(syncs[:6]); e != api.ErrFull {
		t.Fatalf("Feed of one more than there is room for is %d", e)
	}
	// The last S is there but for its last bytes: it ends with what is fed now.
	at := 4 * api.MaxMessage % 5
	feed(t, s, syncs[at:at+5])
	all := 4*api.MaxMessage/5 + 1
	for range all - 1 {
		steps(t, s, sync)
	}
	takes(t, s, bytes.Repeat([]byte{'Z', 0, 0, 0, 5, 'I'}, all))
	waits(t, s)
}

// P31.1: the room of the first message is the same.
func TestRoomFirst(t *testing.T) {
	s := New(engine.New(), nil, 0)
	if e := s.Feed(make([]byte, 4*api.MaxMessage+1)); e != api.ErrFull {
		t.Fatalf("Feed of too much is %d", e)
	}
	waits(t, s)
	feed(t, s, version(t))
	feed(t, s, make([]byte, 4*api.MaxMessage-len(version(t))))
	stepsNone(t, s)
	takes(t, s, greet.Bytes(nil, 0))
}

// wrong are messages that front refuses: of kinds that are not served, of none, and with a body that is none.
func wrong() []api.Msg {
	var l []api.Msg
	for kind := range 256 {
		m := api.Msg{Type: byte(kind)}
		if front.Known(m.Type) != 1 {
			l = append(l, m, api.Msg{Type: m.Type, Body: []byte{0}})
		}
	}
	return append(l,
		api.Msg{Type: 'S', Body: []byte{0}}, api.Msg{Type: 'H', Body: []byte{0}}, api.Msg{Type: 'X', Body: []byte("x")},
		api.Msg{Type: 'Q'}, api.Msg{Type: 'Q', Body: []byte("select 1")}, api.Msg{Type: 'Q', Body: []byte("a\x00b\x00")},
		api.Msg{Type: 'P', Body: []byte("a\x00b\x00")}, api.Msg{Type: 'P', Body: []byte("a\x00b\x00\x00\x01")},
		api.Msg{Type: 'B'}, api.Msg{Type: 'E', Body: []byte("\x00\x00\x00")},
		api.Msg{Type: 'D', Body: []byte("Qa\x00")}, api.Msg{Type: 'C', Body: []byte("\x00a\x00")}, api.Msg{Type: 'C', Body: []byte("S")},
	)
}

// P31.1: what front refuses is told by the fault that ends all; it is not answered, and what came behind it is not done.
func TestFrontRefuses(t *testing.T) {
	for _, m := range wrong() {
		s := begun(t, engine.New())
		// Not by frame.Bytes: of the type 0 it would have none.
		b := append([]byte{m.Type}, frame.Bytes(api.Msg{Body: m.Body})...)
		feed(t, s, slices.Concat(sent(t, sync), b, sent(t, sync, end)))
		steps(t, s, sync)
		stepsNone(t, s)
		takes(t, s, append([]byte{'Z', 0, 0, 0, 5, 'I'}, violation...))
		isOver(t, s)
		if x := s.Session(); x.Over() || x.Skips() || x.Status() != 73 {
			t.Fatalf("the session has it that %v came", m)
		}
	}
}

// everything is a message of each kind, and of each that goes wrong.
func everything() []api.Front {
	return []api.Front{
		flush,
		{Kind: 'P', Name: "a", Text: "select 2", OIDs: []int{23, 25}},
		{Kind: 'D', What: 'S', Name: "a"},
		{Kind: 'B', Name: "a", Portal: "x", Formats: []int{0, 1}, Params: []api.Cell{{Null: true}, {Bytes: []byte("p")}}, Results: []int{1}},
		{Kind: 'D', What: 'P', Portal: "x"},
		{Kind: 'E', Portal: "x", Max: 1},
		{Kind: 'E', Portal: "x"},
		{Kind: 'C', What: 'P', Portal: "x"},
		{Kind: 'E', Portal: "x"},
		{Kind: 'P', Text: "skipped"},
		sync,
		{Kind: 'P', Name: "a", Text: "select 2"},
		{Kind: 'Q', Text: "skipped"},
		sync,
		{Kind: 'Q', Text: "begin"},
		{Kind: 'P', Text: "echo"},
		{Kind: 'B', Params: []api.Cell{}},
		{Kind: 'E'},
		sync,
		{Kind: 'Q', Text: "fail 22012"},
		sync,
		{Kind: 'Q', Text: "rollback"},
		{Kind: 'Q', Text: "next"},
		{Kind: 'C', What: 'S', Name: "a"},
		{Kind: 'Q', Text: "no such thing"},
		sync,
	}
}

// P31.1: of each message is said what the session says of it, and it is answered, also where nothing is said.
func TestDoes(t *testing.T) {
	s := begun(t, engine.New())
	does(t, s, sess.New(engine.New()), everything()...)
	waits(t, s)
}

// P31.1: one Step does one message, however many are there.
func TestOneByOne(t *testing.T) {
	s, other := New(engine.New(), some, 9), sess.New(engine.New())
	feed(t, s, append(version(t), sent(t, everything()...)...))
	want := greet.Bytes(some, 9)
	stepsNone(t, s)
	for _, f := range everything() {
		takes(t, s, want)
		steps(t, s, f)
		want = back.Bytes(other.Do(f)...)
	}
	takes(t, s, want)
	waits(t, s)
}

// P31.1: an X is answered, and behind it it is Over, whatever came behind it, and whether the session skips or not.
func TestEnd(t *testing.T) {
	for _, ahead := range [][]api.Front{nil, {sync}, {{Kind: 'E', Portal: "none"}, flush}, {{Kind: 'Q', Text: "begin"}}} {
		s, other := begun(t, engine.New()), sess.New(engine.New())
		does(t, s, other, ahead...)
		feed(t, s, sent(t, end, sync, end))
		steps(t, s, end)
		takes(t, s, nil)
		isOver(t, s)
		if !s.Session().Over() {
			t.Fatal("the session did not get the X")
		}
	}
}

// P31.1: an X is one of the later messages alone; the first one has no type.
func TestEndFirst(t *testing.T) {
	s := New(engine.New(), nil, 0)
	feed(t, s, sent(t, end))
	stepsNone(t, s)
	takes(t, s, violation)
	isOver(t, s)
}

// P31.1: of a nil engine the session says nothing; the messages are answered nevertheless, and an X ends all.
func TestNoEngine(t *testing.T) {
	s := begun(t, nil)
	feed(t, s, sent(t, everything()...))
	for _, f := range everything() {
		steps(t, s, f)
	}
	waits(t, s)
	feed(t, s, sent(t, end, sync))
	steps(t, s, end)
	isOver(t, s)

	s = begun(t, nil)
	feed(t, s, []byte{'?', 0, 0, 0, 4})
	stepsNone(t, s)
	takes(t, s, violation)
	isOver(t, s)
}

// P31.1: servers of one engine have that alone together.
func TestTogether(t *testing.T) {
	e := engine.New()
	s, other := begun(t, e), begun(t, e)
	next := api.Front{Kind: 'Q', Text: "next"}
	for n := range 6 {
		is := []*Server{s, other}[n%2]
		feed(t, is, sent(t, next))
		steps(t, is, next)
		if e.Count() != n+1 || !bytes.Contains(taken(t, is), []byte{'D', 0, 0, 0, 11, 0, 1, 0, 0, 0, 1, byte('1' + n)}) {
			t.Fatalf("next is not %d", n+1)
		}
	}
	feed(t, s, sent(t, end))
	steps(t, s, end)
	isOver(t, s)
	does(t, other, sess.New(engine.New()), sync)
	waits(t, other)
}

// P31.2: what is said is taken the oldest first, each once, whether more is said in between or not.
func TestTake(t *testing.T) {
	s := begun(t, engine.New())
	one := api.Front{Kind: 'Q', Text: "select 1"}
	feed(t, s, sent(t, one, sync, one))
	steps(t, s, one)
	for _, kind := range "TD" {
		if m, ok := s.Take(); !ok || m.Type != byte(kind) {
			t.Fatalf("Take is %v, %v, not a %c", m, ok, kind)
		}
	}
	steps(t, s, sync)
	steps(t, s, one)
	for _, kind := range "CZZTDCZ" {
		if m, ok := s.Take(); !ok || m.Type != byte(kind) {
			t.Fatalf("Take is %v, %v, not a %c", m, ok, kind)
		}
	}
	takes(t, s, nil)
	waits(t, s)
}

// P31.2: what was said ahead of the end may still be taken behind it.
func TestTakeOver(t *testing.T) {
	s := New(engine.New(), some, 2)
	feed(t, s, append(version(t), sent(t, sync, end)...))
	stepsNone(t, s)
	steps(t, s, sync)
	steps(t, s, end)
	takes(t, s, append(greet.Bytes(some, 2), 'Z', 0, 0, 0, 5, 'I'))
	isOver(t, s)
}

// P31.2: Session is the session itself, the same always, also where it is Over; what is done there is done.
func TestSession(t *testing.T) {
	s := begun(t, engine.New())
	x := s.Session()
	x.Do(api.Front{Kind: 'P', Name: "a", Text: "select 1"})
	does(t, s, with(t, api.Front{Kind: 'P', Name: "a", Text: "select 1"}), api.Front{Kind: 'D', What: 'S', Name: "a"})
	feed(t, s, sent(t, api.Front{Kind: 'P', Name: "b"}, end))
	steps(t, s, api.Front{Kind: 'P', Name: "b"})
	if got := x.Names(); !slices.Equal(got, []string{"a", "b"}) {
		t.Fatalf("its names are %q", got)
	}
	steps(t, s, end)
	if s.Session() != x || !x.Over() {
		t.Fatal("it is another session")
	}
}

// with answers a session behind l.
func with(t *testing.T, l ...api.Front) *sess.Session {
	t.Helper()
	x := sess.New(engine.New())
	for _, f := range l {
		x.Do(f)
	}
	return x
}

// P31.2: what no call made says ErrNil, nothing, no.
func TestNotMade(t *testing.T) {
	for _, s := range []*Server{nil, {}} {
		for _, b := range [][]byte{nil, version(t), sent(t, end), {0, 0, 0, 0}, make([]byte, 4*api.MaxMessage+1)} {
			if e := s.Feed(b); e != api.ErrNil {
				t.Fatalf("Feed is %d", e)
			}
			waits(t, s)
			if s.Session() != nil {
				t.Fatal("there is a session")
			}
		}
	}
}

// P31.1: nothing that is handed in is kept.
func TestApartFrom(t *testing.T) {
	params := slices.Clone(some)
	s := New(engine.New(), params, 4)
	params[0] = api.Pair{Name: "other", Value: "other"}
	b := version(t)
	feed(t, s, b[:7])
	clear(b[:7])
	feed(t, s, b[7:])
	clear(b)
	stepsNone(t, s)
	takes(t, s, greet.Bytes(some, 4))
}

// P31.1, P31.2: what is answered may be changed by whoever gets it.
func TestApart(t *testing.T) {
	s, other := begun(t, engine.New()), sess.New(engine.New())
	l := []api.Front{
		{Kind: 'P', Name: "a", Text: "echo", OIDs: []int{23, 25}},
		{Kind: 'B', Name: "a", Params: []api.Cell{{Bytes: []byte("one")}, {Bytes: []byte("two")}}},
		{Kind: 'D', What: 'S', Name: "a"},
		{Kind: 'E'},
		sync,
	}
	feed(t, s, sent(t, l...))
	var want []byte
	for _, f := range l {
		got, ok := s.Step()
		if !ok || !front.Same(got, f) {
			t.Fatalf("Step is %v, %v", got, ok)
		}
		clear(append(got.OIDs, 1, 2, 3))
		for i := range got.Params {
			clear(append(got.Params[i].Bytes, "spare"...))
			got.Params[i] = api.Cell{Null: true}
		}
		want = append(want, back.Bytes(other.Do(f)...)...)
	}
	for len(want) > 0 {
		m, ok := s.Take()
		b := frame.Bytes(m)
		if !ok || !bytes.HasPrefix(want, b) {
			t.Fatalf("it said %q, not %q", b, want)
		}
		want = want[len(b):]
		clear(append(m.Body, "spare room"...))
	}
	takes(t, s, nil)
	does(t, s, other, everything()...)
}
