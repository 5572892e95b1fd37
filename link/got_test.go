package link

import (
	"bytes"
	"math/rand"
	"slices"
	"testing"

	"remuda/api"
	"remuda/back"
	"remuda/fault"
	"remuda/skip"
	"remuda/table"
	"remuda/tell"
)

// refused checks that Got has this error, and nothing else, and changes nothing.
func (p part) refused(t *testing.T, m api.Msg, want api.Errno) {
	t.Helper()
	was := p.state()
	b, status, e := p.Got(p.names, m)
	if len(b) > 0 || status != 0 || e != want {
		t.Fatalf("Got of %q is %q, %d, %d, not %d", m.Type, b, status, e, want)
	}
	p.unchanged(t, "a reply that is refused", was)
}

// busy answers a link of which something is to come: a P, a C and an S.
func busy(t *testing.T) part {
	t.Helper()
	p := begun(t, 2, 16)
	p.send(t, parse("a", "select 1"), "", bytesOf(t, parse("_p1", "select 1")), "")
	p.send(t, closed("a"), "", "", "")
	p.send(t, plain('S'), "", bytesOf(t, plain('S')), "")
	return p
}

// P40.3: what no server says is ErrKind, of any body, ahead of whether anything is to come.
func TestGotKind(t *testing.T) {
	for kind := range 256 {
		_, e := back.Decode(api.Msg{Type: byte(kind)})
		if e != api.ErrKind {
			continue
		}
		for _, body := range []string{"", "I", "\x00\x00\x00\x00"} {
			m := api.Msg{Type: byte(kind), Body: []byte(body)}
			begun(t, 1, 6).refused(t, m, api.ErrKind)
			busy(t).refused(t, m, api.ErrKind)
		}
	}
}

// P40.3: a body that no such message has is ErrForm.
func TestGotForm(t *testing.T) {
	for _, m := range []api.Msg{
		{Type: '1', Body: []byte{0}}, {Type: 'Z'}, {Type: 'Z', Body: []byte("X")}, {Type: 'Z', Body: []byte("II")}, {Type: 'R', Body: []byte{0, 0, 0, 3}},
		{Type: 'C', Body: []byte("x")}, {Type: 'E', Body: []byte("Mx\x00")}, {Type: 'D', Body: []byte{0, 1}}, {Type: 'K', Body: []byte{0, 0, 0, 1}},
	} {
		begun(t, 1, 6).refused(t, m, api.ErrForm)
		busy(t).refused(t, m, api.ErrForm)
	}
}

// P40.3: what does not come now is ErrState.
func TestGotState(t *testing.T) {
	for _, b := range []api.Back{{Kind: '1'}, {Kind: 'Z', Status: 'T'}, {Kind: 'N'}, {Kind: 'S'}, failure("X", "y")} {
		m, _ := back.Encode(b)
		begun(t, 1, 6).refused(t, m, api.ErrState)
	}
	for _, b := range []api.Back{{Kind: '2'}, {Kind: '3'}, {Kind: 'Z', Status: 'T'}, {Kind: 'C'}, {Kind: 'R'}} {
		m, _ := back.Encode(b)
		busy(t).refused(t, m, api.ErrState)
	}
}

// P40.3: the client gets what is of its own, byte by byte, also where nothing ends by it.
func TestGotShown(t *testing.T) {
	p := begun(t, 2, 16)
	notice := api.Back{Kind: 'N', Fields: fault.Make("NOTICE", "00000", "x")}
	p.send(t, parse("a", "select 1"), "", bytesOf(t, parse("_p1", "select 1")), "")
	p.shown(t, notice, api.Back{Kind: 'S', Name: "a", Value: "b"}, api.Back{Kind: '1'})
	p.send(t, describe("a"), "", bytesOf(t, describe("_p1")), "")
	p.shown(t, api.Back{Kind: 't', OIDs: []int{23}}, api.Back{Kind: 'T', Cols: []api.Col{{Name: "c1", OID: 25, Size: -1, Mod: -1}}})
	p.send(t, bind("a"), "", bytesOf(t, bind("_p1")), "")
	p.shown(t, api.Back{Kind: '2'})
	p.send(t, plain('E'), "", bytesOf(t, plain('E')), "")
	p.shown(t, api.Back{Kind: 'D', Row: []api.Cell{{Null: true}, {Bytes: []byte("1")}}}, api.Back{Kind: 's'})
	p.left(t)
	p.send(t, query("x"), "", bytesOf(t, query("x")), "")
	p.shown(t, failure("22012", "failed on purpose"), notice)
	if p.Len() != 1 || p.skip.On {
		t.Fatalf("a query has ended by a fault: %+v", p.state())
	}
	p.shown(t, api.Back{Kind: 'Z', Status: 'I'})
	p.left(t)
}

// P40.3: a fault says the client's name in the place of the server's.
func TestGotRenamed(t *testing.T) {
	p := begun(t, 2, 16)
	p.send(t, parse("a", "select 1"), "", bytesOf(t, parse("_p1", "select 1")), "")
	p.shown(t, api.Back{Kind: '1'})
	for _, c := range []struct {
		f, told        api.Front
		code, own, say string
	}{
		{parse("a", "select 2"), parse("_dup", "select 2"), "42P05", tell.Exists("_dup"), tell.Exists("a")},
		{bind("b"), bind("_none"), "26000", tell.Missing("_none"), tell.Missing("b")},
		{describe(""), describe("_none"), "26000", tell.Missing("_none"), tell.Missing("")},
		{bind("a"), bind("_p1"), "08P01", tell.Arity(1, "_p1", 2), tell.Arity(1, "a", 2)},
		{bind("a"), bind("_p1"), "25P02", "of _p1", "of _p1"},
	} {
		p.skip = skip.Skip{}
		p.send(t, c.f, "", bytesOf(t, c.told), "")
		p.got(t, failure(c.code, c.own), saidOf(failure(c.code, c.say)))
	}
	p.has(t, api.Named{Name: "a", ID: 1})
	p.refs(t, []int{1}, nil, 2)
}

// P40.3: what had stood for a name is let go, once the name stands for something else, or is gone.
func TestGotReplaced(t *testing.T) {
	p := begun(t, 1, 16)
	p.send(t, parse("", "select 1"), "", bytesOf(t, parse("_p1", "select 1")), "")
	p.shown(t, api.Back{Kind: '1'})
	p.refs(t, []int{1}, nil, 2)
	p.send(t, parse("", "select 1"), "", bytesOf(t, parse("", "select 1")), "")
	p.refs(t, []int{1}, []int{1}, 3)
	p.shown(t, api.Back{Kind: '1'})
	p.refs(t, []int{1}, nil, 2)
	p.send(t, parse("", "select 2"), bytesOf(t, closed("_p1")), bytesOf(t, parse("_p2", "select 2")), "")
	p.got(t, api.Back{Kind: '3'}, "")
	p.refs(t, nil, []int{2, 2}, 1, 2)
	p.shown(t, api.Back{Kind: '1'})
	p.refs(t, []int{2}, nil, 0, 2)
	p.has(t, api.Named{ID: 2})
	p.send(t, query("x"), "", bytesOf(t, query("x")), "")
	p.shown(t, api.Back{Kind: 'I'})
	p.has(t, api.Named{ID: 2})
	p.shown(t, api.Back{Kind: 'Z', Status: 'I'})
	p.has(t)
	p.refs(t, []int{2}, nil, 0, 1)
}

// P40.3: of what is used last the server has it last, and gives up the one that was used first.
func TestGotTouched(t *testing.T) {
	p := begun(t, 2, 16)
	for i, name := range []string{"a", "b"} {
		text := "select " + name
		p.send(t, parse(name, text), "", bytesOf(t, parse([]string{"_p1", "_p2"}[i], text)), "")
		p.shown(t, api.Back{Kind: '1'})
	}
	p.send(t, describe("a"), "", bytesOf(t, describe("_p1")), "")
	p.refs(t, []int{1, 2}, nil, 2, 2)
	p.shown(t, api.Back{Kind: 'n'})
	p.refs(t, []int{2, 1}, nil, 2, 2)
	p.send(t, parse("c", "select c"), bytesOf(t, closed("_p2")), bytesOf(t, parse("_p3", "select c")), "")
	p.got(t, api.Back{Kind: '3'}, "")
	p.shown(t, api.Back{Kind: '1'})
	p.refs(t, []int{1, 3}, nil, 2, 1, 2)
}

// P40.3: a table that is full, or none, takes no name: what it would stand for is let go.
func TestGotNoName(t *testing.T) {
	full, e := table.New(1)
	if e != api.OK {
		t.Fatal(e)
	}
	for _, names := range []*table.Table{nil, {}, full} {
		p := begun(t, 2, 16)
		full.Set("other", 0)
		p.Send(names, parse("a", "select 1"))
		p.refs(t, nil, []int{1, 1}, 2)
		b, _, e := p.Got(names, api.Msg{Type: '1'})
		if string(b) != saidOf(api.Back{Kind: '1'}) || e != api.OK {
			t.Fatalf("Got is %q, %d", b, e)
		}
		p.refs(t, []int{1}, nil, 1)
		if _, ok := names.Get("a"); ok {
			t.Fatal("a is there")
		}
	}
}

// P40.3: what a fault ends refers to nothing any more, nor what is dropped for that; the rest is skipped up to an S.
func TestGotFailed(t *testing.T) {
	p := begun(t, 1, 16)
	p.send(t, parse("a", "select 1"), "", bytesOf(t, parse("_p1", "select 1")), "")
	p.shown(t, api.Back{Kind: '1'})
	p.send(t, parse("b", "bad"), bytesOf(t, closed("_p1")), bytesOf(t, parse("_p2", "bad")), "")
	p.send(t, parse("c", "bad"), "", bytesOf(t, parse("", "bad")), "")
	p.send(t, bind("a"), bytesOf(t, closed("_p2"), parse("_p1", "select 1")), bytesOf(t, bind("_p1")), "")
	p.send(t, closed("a"), "", "", "")
	p.refs(t, []int{1}, []int{2, 2, 2, 1}, 3, 3)
	p.got(t, api.Back{Kind: '3'}, "")
	p.refs(t, nil, []int{2, 2, 2, 1}, 2, 3)
	p.shown(t, failure("42601", "syntax error"))
	p.left(t)
	p.refs(t, nil, nil, 1)
	p.has(t, api.Named{Name: "a", ID: 1})
	if p.skip != (skip.Skip{On: true, Dirty: true}) {
		t.Fatalf("it is %+v", p.skip)
	}
	for kind, want := range map[byte]int{'P': api.Drop, 'H': api.Drop, 'S': api.Pass, 'X': api.Pass} {
		if v := p.Verdict(plain(kind)); v != want {
			t.Errorf("Verdict of %c is %d", kind, v)
		}
	}
}

// P40.3: what fails behind an S that was sent leaves that to come, and nothing is skipped behind it.
func TestGotFailedLeft(t *testing.T) {
	p := busy(t)
	p.refs(t, nil, []int{1, 1}, 2)
	bad := failure("42601", "syntax error")
	p.shown(t, bad)
	p.left(t, api.Entry{Kind: api.EntSync})
	p.refs(t, nil, nil)
	p.has(t)
	if p.skip != (skip.Skip{Wait: true, Dirty: true}) {
		t.Fatalf("it is %+v", p.skip)
	}
	p.shown(t, api.Back{Kind: 'Z', Status: 'I'})
	if !p.Idle() {
		t.Fatalf("it is %+v", p.state())
	}
}

// P40.3: a nameless statement that fails is gone, of the names of whoever has it; one that is skipped is not.
func TestGotBad(t *testing.T) {
	bad := failure("42601", "syntax error")
	for _, kind := range []byte{'P', 'E'} {
		p := begun(t, 2, 16)
		p.send(t, parse("", "select 1"), "", bytesOf(t, parse("_p1", "select 1")), "")
		p.shown(t, api.Back{Kind: '1'})
		if kind == 'E' {
			p.send(t, plain('E'), "", bytesOf(t, plain('E')), "")
		}
		p.send(t, parse("", "bad"), "", bytesOf(t, parse("_p2", "bad")), "")
		p.refs(t, []int{1}, []int{2, 2}, 2, 2)
		p.shown(t, bad)
		p.left(t)
		if kind == 'P' {
			p.has(t)
			p.refs(t, []int{1}, nil, 1)
		} else {
			p.has(t, api.Named{ID: 1})
			p.refs(t, []int{1}, nil, 2)
		}
	}
	p := begun(t, 2, 16)
	p.send(t, parse("", "select 1"), "", bytesOf(t, parse("_p1", "select 1")), "")
	m, _ := back.Encode(bad)
	if _, _, e := p.Got(nil, m); e != api.OK {
		t.Fatal(e)
	}
	p.refs(t, nil, nil)
}

// P40.3 (the document's tenth example): where what is the pooler's own fails, that is told of the client's message.
func TestGotOwnFails(t *testing.T) {
	p := begun(t, 2, 16)
	p.send(t, parse("a", "select 1"), "", bytesOf(t, parse("_p1", "select 1")), "")
	p.shown(t, api.Back{Kind: '1'})
	x, e := New(p.all, 2, 16)
	if e != api.OK {
		t.Fatal(e)
	}
	q := part{Link: x, names: p.names, all: p.all}
	q.send(t, bind("a"), bytesOf(t, parse("_p1", "select 1")), bytesOf(t, bind("_p1")), "")
	q.send(t, bind("b"), "", bytesOf(t, bind("_none")), "")
	q.refs(t, nil, []int{1}, 3)
	q.shown(t, failure("25P02", "aborted"))
	q.left(t)
	q.refs(t, nil, nil, 2)
	q.has(t, api.Named{Name: "a", ID: 1})
	if q.skip != (skip.Skip{On: true, Dirty: true}) {
		t.Fatalf("it is %+v", q.skip)
	}
}

// P40.3: what the server says of what it was told first is nobody's.
func TestGotHelloFails(t *testing.T) {
	p := made(t, 1, 6)
	p.Hello(nil)
	p.got(t, failure("28000", "no"), "")
	p.left(t, hidden(api.EntSync))
}

// P40.3: a Z's status is answered, and the link's; behind it nothing waits any more, but what is skipped stays so.
func TestGotReady(t *testing.T) {
	p := begun(t, 2, 16)
	for _, status := range []byte{'T', 'E', 'I', 'I', 'E', 'T'} {
		p.send(t, plain('S'), "", bytesOf(t, plain('S')), "")
		if p.Verdict(plain('S')) != api.Hold {
			t.Fatal("nothing waits behind an S")
		}
		p.shown(t, api.Back{Kind: 'Z', Status: status})
		if p.Status() != status || p.Idle() != (status == 'I') || p.skip != (skip.Skip{}) {
			t.Fatalf("behind %c it is %+v", status, p.state())
		}
	}
	p.skip = skip.Skip{On: true, Wait: true, Dirty: true}
	p.queue.Push(api.Entry{Kind: api.EntSync})
	p.shown(t, api.Back{Kind: 'Z', Status: 'T'})
	if p.skip != (skip.Skip{On: true}) {
		t.Fatalf("it is %+v", p.skip)
	}
}

// P40.3: of replies that have no status that stays, and what waits waits on.
func TestGotNoStatus(t *testing.T) {
	p := begun(t, 2, 16)
	p.send(t, query("begin"), "", bytesOf(t, query("begin")), "")
	p.shown(t, api.Back{Kind: 'Z', Status: 'T'})
	p.send(t, plain('E'), "", bytesOf(t, plain('E')), "")
	p.send(t, plain('S'), "", bytesOf(t, plain('S')), "")
	p.shown(t, api.Back{Kind: 'I'})
	if p.Status() != 'T' || p.skip != (skip.Skip{Wait: true, Dirty: true}) {
		t.Fatalf("it is %+v", p.state())
	}
}

// P40.3: a message that is handed in is neither kept nor changed, and what is answered is not shared with it.
func TestGotApart(t *testing.T) {
	p := begun(t, 2, 16)
	p.send(t, plain('E'), "", bytesOf(t, plain('E')), "")
	m, _ := back.Encode(api.Back{Kind: 'D', Row: []api.Cell{{Bytes: []byte("abc")}}})
	old := slices.Clone(m.Body)
	one, _, _ := p.Got(p.names, m)
	two, _, _ := p.Got(p.names, m)
	clear(one)
	if !bytes.Equal(m.Body, old) || string(two) != "D\x00\x00\x00\x0d\x00\x01\x00\x00\x00\x03abc" {
		t.Fatalf("the body is %q, the answer %q", m.Body, two)
	}
}

// P40.3: of any bytes at all Got ends, with an error, or without one.
func TestGotAnything(t *testing.T) {
	r := rand.New(rand.NewSource(403))
	for range 20000 {
		p := busy(t)
		body := make([]byte, r.Intn(12))
		for i := range body {
			body[i] = "\x00\x00\x00\x01\x04ITEMx"[r.Intn(10)]
		}
		m := api.Msg{Type: "RSKZ123nsICDTtEN?"[r.Intn(17)], Body: body}
		if _, _, e := p.Got(p.names, m); e != api.OK && e != api.ErrForm && e != api.ErrKind && e != api.ErrState {
			t.Fatalf("Got of %v is %d", m, e)
		}
	}
}

// P40.3: of those that end, no Reply is told but of what is said without a server, and is not hidden.
func TestGotReplies(t *testing.T) {
	p := begun(t, 2, 16)
	p.queue.Push(
		api.Entry{Kind: api.EntExec, Reply: []byte("no")}, api.Entry{Kind: api.EntSynth, Reply: []byte("a")},
		api.Entry{Kind: api.EntSynth, Hide: true, Reply: []byte("no")}, api.Entry{Kind: api.EntSynth, Reply: []byte("b")},
		api.Entry{Kind: api.EntExec, Hide: true, Reply: []byte("no")}, api.Entry{Kind: api.EntSynth, Reply: []byte("c")},
	)
	p.got(t, api.Back{Kind: 'I'}, saidOf(api.Back{Kind: 'I'})+"ab")
	p.got(t, api.Back{Kind: 'I'}, "c")
	p.left(t)
}
