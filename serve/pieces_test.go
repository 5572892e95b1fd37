package serve

import (
	"bytes"
	"math/rand"
	"slices"
	"strconv"
	"testing"

	"remuda/api"
	"remuda/back"
	"remuda/engine"
	"remuda/frame"
	"remuda/front"
	"remuda/greet"
	"remuda/hello"
	"remuda/sess"
)

// script is all that a client sends, and what is to become of it.
type script struct {
	params []api.Pair
	id     int
	bytes  []byte
	fronts []api.Front
	said   []byte
	over   bool
}

// messages are what a client may say behind its first message.
func messages(r *rand.Rand) api.Front {
	name := string("ab"[r.Intn(2)])
	switch r.Intn(12) {
	case 0, 1:
		return api.Front{Kind: 'P', Name: name, Text: []string{"select 2", "echo", "begin", "", "next"}[r.Intn(5)], OIDs: []int{23, 25}[:r.Intn(3)]}
	case 2, 3:
		return api.Front{Kind: 'B', Name: name, Portal: "x"[r.Intn(2):], Params: []api.Cell{{Null: true}, {Bytes: []byte(strconv.Itoa(r.Intn(999)))}}[:r.Intn(3)]}
	case 4:
		return api.Front{Kind: 'D', What: 'S', Name: name}
	case 5:
		return api.Front{Kind: 'E', Portal: "x"[r.Intn(2):], Max: r.Intn(3)}
	case 6:
		return api.Front{Kind: 'C', What: 'P', Portal: "x"}
	case 7:
		return api.Front{Kind: 'C', What: 'S', Name: name}
	case 8:
		return api.Front{Kind: 'H'}
	case 9:
		return api.Front{Kind: 'Q', Text: []string{"begin", "commit", "next", "select 3", "bad", "rollback"}[r.Intn(6)]}
	}
	return sync
}

// firsts adds first messages, and tells whether messages with types come behind them.
func (s *script) firsts(r *rand.Rand) bool {
	for r.Intn(3) == 0 {
		s.first(api.Hello{Code: api.CodeSSL})
	}
	switch r.Intn(8) {
	case 0:
		s.over = true
		s.first(api.Hello{Code: api.CodeCancel, Process: r.Intn(99), Secret: r.Intn(99)})
		return false
	case 1:
		s.over = true
		s.bytes = append(s.bytes, 0, 0, 0, byte(5+r.Intn(2)), 0, 3, 0, 0)
		return false
	case 2:
		s.over, s.said = true, violation
		s.bytes = append(s.bytes, 0, byte(1+r.Intn(255)), byte(r.Intn(255)), 1)
		return false
	}
	s.first(api.Hello{Code: api.Version, Params: some[2:][:r.Intn(3)]})
	s.said = greet.Bytes(s.params, s.id)
	return true
}

// first adds a first message.
func (s *script) first(h api.Hello) {
	body, e := hello.Build(h)
	if e != api.OK {
		panic("a first message that may not be")
	}
	s.bytes = append(s.bytes, frame.Bytes(api.Msg{Body: body})...)
}

// later adds messages with types, and at last one that ends all, or none.
func (s *script) later(r *rand.Rand) {
	other := sess.New(engine.New())
	for range r.Intn(20) {
		s.front(other, messages(r))
	}
	switch r.Intn(4) {
	case 0:
		s.over = true
		s.front(other, end)
	case 1:
		s.over = true
		all := wrong()
		m := all[r.Intn(len(all))]
		s.bytes = append(append(s.bytes, m.Type), frame.Bytes(api.Msg{Body: m.Body})...)
		s.said = append(s.said, violation...)
	case 2:
		s.over = true
		s.bytes = append(s.bytes, 'Q', 0, byte(1+r.Intn(255)), byte(r.Intn(255)), 1)
		s.said = append(s.said, violation...)
	}
}

// front adds a message, as a session of its own does it.
func (s *script) front(other *sess.Session, f api.Front) {
	m, e := front.Encode(f)
	if e != api.OK {
		panic("a message that may not be")
	}
	s.bytes = append(s.bytes, frame.Bytes(m)...)
	s.fronts = append(s.fronts, f)
	s.said = append(s.said, back.Bytes(other.Do(f)...)...)
}

// random answers a script; behind what ends all there may be more bytes.
func random(r *rand.Rand) *script {
	s := &script{params: some[:r.Intn(len(some)+1)], id: r.Intn(2000)}
	if s.firsts(r) {
		s.later(r)
	}
	if s.over && r.Intn(2) == 0 {
		s.bytes = append(s.bytes, "S\x00\x00\x00\x04Q and more"...)
	}
	return s
}

// run feeds a script in pieces, the next of which has as many bytes as cut says, steps as often as looks says behind each, and to the end behind the last one.
func (s *script) run(t *testing.T, cut, looks func() int) {
	t.Helper()
	is := New(engine.New(), s.params, s.id)
	var fronts []api.Front
	var said []byte
	step := func() {
		if f, ok := is.Step(); ok {
			fronts = append(fronts, f)
		}
	}
	for left := s.bytes; len(left) > 0 && !is.Over(); {
		n := min(cut(), len(left))
		feed(t, is, left[:n])
		left = left[n:]
		for range looks() {
			step()
		}
		if looks()%2 == 0 {
			said = append(said, taken(t, is)...)
		}
	}
	for range len(s.bytes) + 1 {
		step()
	}
	said = append(said, taken(t, is)...)
	if !slices.EqualFunc(fronts, s.fronts, front.Same) {
		t.Fatalf("of %q these were done: %v, not %v", s.bytes, fronts, s.fronts)
	}
	if !bytes.Equal(said, s.said) || is.Over() != s.over {
		t.Fatalf("of %q it said %q, and Over is %v, not %q", s.bytes, said, is.Over(), s.said)
	}
}

// P31.3: in whatever pieces the bytes come, and however often it steps in between, the same is said.
func TestPieces(t *testing.T) {
	r := rand.New(rand.NewSource(31))
	for range 400 {
		s := random(r)
		s.run(t, func() int { return len(s.bytes) }, func() int { return 0 })
		s.run(t, func() int { return 1 }, func() int { return 1 })
		s.run(t, func() int { return 1 }, func() int { return 3 })
		most := 1 + r.Intn(40)
		for range 3 {
			s.run(t, func() int { return 1 + r.Intn(most) }, func() int { return r.Intn(5) })
		}
	}
}
