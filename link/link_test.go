package link

import (
	"bytes"
	"math"
	"reflect"
	"slices"
	"testing"

	"remuda/api"
	"remuda/back"
	"remuda/fault"
	"remuda/frame"
	"remuda/front"
	"remuda/queue"
	"remuda/reg"
	"remuda/rewrite"
	"remuda/skip"
	"remuda/table"
)

// part is a link, with a client's names and the registry.
type part struct {
	*Link
	names *table.Table
	all   *reg.Registry
}

// made answers a link that New must make, with a client that has no names, and may have eight.
func made(t *testing.T, most, room int) part {
	t.Helper()
	p := part{all: reg.New()}
	var e api.Errno
	if p.names, e = table.New(8); e != api.OK {
		t.Fatal(e)
	}
	p.Link, e = New(p.all, most, room)
	if p.Link == nil || e != api.OK {
		t.Fatalf("New(%d, %d) is %v, %d", most, room, p.Link, e)
	}
	return p
}

// begun answers a link that a server has answered Hello.
func begun(t *testing.T, most, room int) part {
	t.Helper()
	p := made(t, most, room)
	p.Hello(nil)
	for _, b := range []api.Back{{Kind: 'R'}, {Kind: 'K', N: 1, M: 2}, {Kind: 'Z', Status: 'I'}, {Kind: '1'}, {Kind: 'Z', Status: 'I'}} {
		p.got(t, b, "")
	}
	if !p.Idle() {
		t.Fatal("it is not idle behind Hello")
	}
	return p
}

// bytesOf answers the bytes of each of l.
func bytesOf(t *testing.T, l ...api.Front) string {
	t.Helper()
	var all []byte
	for _, f := range l {
		m, e := front.Encode(f)
		if e != api.OK {
			t.Fatalf("Encode(%v) is %d", f, e)
		}
		all = append(all, frame.Bytes(m)...)
	}
	return string(all)
}

// saidOf answers the bytes of each of l.
func saidOf(l ...api.Back) string { return string(back.Bytes(l...)) }

// failure answers a fault, told of a name where the text has one.
func failure(code, text string) api.Back { return fault.Error(code, text) }

// send checks what Send tells: of the pooler's own, of f, and the client.
func (p part) send(t *testing.T, f api.Front, own, last, said string) {
	t.Helper()
	a, b, c := p.Send(p.names, f)
	if string(a) != own || string(b) != last || string(c) != said {
		t.Fatalf("Send of %+v is %q, %q, %q, not %q, %q, %q", f, a, b, c, own, last, said)
	}
}

// got checks what the client gets of a reply, with what is answered of the status.
func (p part) got(t *testing.T, b api.Back, said string) {
	t.Helper()
	m, e := back.Encode(b)
	if e != api.OK {
		t.Fatalf("Encode(%v) is %d", b, e)
	}
	out, status, e := p.Got(p.names, m)
	if string(out) != said || status != b.Status || e != api.OK {
		t.Fatalf("Got of %+v is %q, %d, %d, not %q", b, out, status, e, said)
	}
}

// shown checks that the client gets just the reply.
func (p part) shown(t *testing.T, l ...api.Back) {
	t.Helper()
	for _, b := range l {
		p.got(t, b, saidOf(b))
	}
}

// left checks which entries are to come, field by field.
func (p part) left(t *testing.T, want ...api.Entry) {
	t.Helper()
	if got := p.Entries(); !slices.EqualFunc(got, want, queue.Same) || p.Len() != len(want) {
		t.Fatalf("to come is %+v, Len %d, not %+v", got, p.Len(), want)
	}
}

// refs checks what the server has, what is on its way, and how many refer to each statement from 1 on.
func (p part) refs(t *testing.T, list, pending []int, refs ...int) {
	t.Helper()
	if !slices.Equal(p.List(), list) || !slices.Equal(p.Pending(), pending) {
		t.Fatalf("List is %v, and Pending %v, not %v and %v", p.List(), p.Pending(), list, pending)
	}
	var got []int
	for id := range len(refs) + 2 {
		got = append(got, p.all.Refs(id+1))
	}
	if !slices.Equal(got, append(slices.Clone(refs), 0, 0)) {
		t.Fatalf("refs are %v, not %v", got, refs)
	}
}

// has checks which names the client has, each with its id.
func (p part) has(t *testing.T, want ...api.Named) {
	t.Helper()
	if got := p.named(); !slices.Equal(got, want) {
		t.Fatalf("the names are %v, not %v", got, want)
	}
}

func (p part) named() []api.Named {
	var l []api.Named
	for name, id := range p.names.All() {
		l = append(l, api.Named{Name: name, ID: id})
	}
	return l
}

// state is all that is to be seen of a part.
type state struct {
	status        byte
	idle          bool
	skip          skip.Skip
	list, pending []int
	entries       []api.Entry
	names         []api.Named
	refs          []api.Counted
}

func (p part) state() state {
	s := state{status: p.Status(), idle: p.Idle(), skip: p.skip, list: p.List(), pending: p.Pending(), entries: p.Entries(), names: p.named()}
	for id, n := range p.all.All() {
		s.refs = append(s.refs, api.Counted{ID: id, Refs: n})
	}
	return s
}

// unchanged checks that nothing is other than it was.
func (p part) unchanged(t *testing.T, what string, was state) {
	t.Helper()
	if now := p.state(); !reflect.DeepEqual(now, was) {
		t.Fatalf("%s: it is %+v, and was %+v", what, now, was)
	}
}

// Messages: a statement that is prepared, bound, described, closed; and what has no name.
func parse(name, text string) api.Front     { return api.Front{Kind: 'P', Name: name, Text: text} }
func bind(name string) api.Front            { return api.Front{Kind: 'B', Name: name, Portal: "p"} }
func describe(name string) api.Front        { return api.Front{Kind: 'D', What: 'S', Name: name} }
func closed(name string) api.Front          { return api.Front{Kind: 'C', What: 'S', Name: name} }
func plain(kind byte) api.Front             { return api.Front{Kind: kind} }
func query(text string) api.Front           { return api.Front{Kind: 'Q', Text: text} }
func told3() string                         { return "3\x00\x00\x00\x04" }
func hidden(kind int) api.Entry             { return api.Entry{Kind: kind, Hide: true} }
func add(id int) []api.CacheOp              { return []api.CacheOp{{Kind: api.CacheAdd, ID: id}} }
func evict(id int) []api.CacheOp            { return []api.CacheOp{{Kind: api.CacheEvict, ID: id}} }
func touch(id int) []api.CacheOp            { return []api.CacheOp{{Kind: api.CacheTouch, ID: id}} }
func set(name string, id int) []api.TableOp { return []api.TableOp{{Set: true, Name: name, ID: id}} }
func unset(name string) []api.TableOp       { return []api.TableOp{{Name: name}} }

// helloBytes are those that a server is told first.
const helloBytes = "\x00\x00\x00\x13\x00\x03\x00\x00user\x00pool\x00\x00" + "P\x00\x00\x00\x0c_dup\x00\x00\x00\x00" + "S\x00\x00\x00\x04"

// P40.1: New takes most from 1 to 64, room from 6 to 256, and a registry.
func TestNewBounds(t *testing.T) {
	for _, most := range []int{1, 2, 63, 64} {
		for _, room := range []int{6, 7, 255, 256} {
			made(t, most, room)
			if x, e := New(nil, most, room); x != nil || e != api.ErrArg {
				t.Errorf("New(nil, %d, %d) is %v, %d", most, room, x, e)
			}
		}
	}
	for _, c := range [][2]int{
		{0, 6}, {-1, 6}, {math.MinInt, 6}, {65, 6}, {4096, 256}, {math.MaxInt, 256},
		{1, 5}, {1, 0}, {1, -1}, {1, math.MinInt}, {64, 257}, {64, 4096}, {1, math.MaxInt}, {0, 5}, {65, 257},
	} {
		if x, e := New(reg.New(), c[0], c[1]); x != nil || e != api.ErrArg {
			t.Errorf("New(%d, %d) is %v, %d", c[0], c[1], x, e)
		}
	}
}

// P40.1, P40.4: a new link has the status 73, nothing to come, nothing cached, nothing skipped.
func TestNewEmpty(t *testing.T) {
	p := made(t, 1, 6)
	p.refs(t, nil, nil)
	p.left(t)
	if p.Status() != 73 || !p.Idle() || p.skip != (skip.Skip{}) {
		t.Fatalf("it is %+v", p.state())
	}
	for _, kind := range "BCDEHPQSX" {
		if v := p.Verdict(plain(byte(kind))); v != api.Pass {
			t.Errorf("Verdict of %c is %d", kind, v)
		}
	}
}

// P40.1: Hello tells who it is, the statement that each server has, and an S; all replies of that are hidden.
func TestHello(t *testing.T) {
	for _, params := range [][]api.Pair{nil, {}, {{Name: "user", Value: "other"}, {Name: "a\x00", Value: "b"}}} {
		p := made(t, 2, 6)
		if b := p.Hello(params); string(b) != helloBytes {
			t.Fatalf("Hello is %q", b)
		}
		p.left(t, hidden(api.EntHello), hidden(api.EntParse), hidden(api.EntSync))
		p.refs(t, nil, nil)
		if p.skip != (skip.Skip{Wait: true, Dirty: true}) || p.Idle() || p.Status() != 73 {
			t.Fatalf("behind Hello it is %+v", p.state())
		}
		for kind, want := range map[byte]int{'P': api.Hold, 'S': api.Hold, 'H': api.Hold, 'X': api.Pass} {
			if v := p.Verdict(plain(kind)); v != want {
				t.Errorf("behind Hello Verdict of %c is %d", kind, v)
			}
		}
	}
}

// P40.1: Hello notes an S, so that nothing is skipped any more.
func TestHelloSkips(t *testing.T) {
	p := begun(t, 2, 6)
	p.send(t, bind("a"), "", bytesOf(t, bind("_none")), "")
	p.got(t, failure("X", "y"), saidOf(failure("X", "y")))
	if p.Verdict(plain('P')) != api.Drop {
		t.Fatal("it does not skip")
	}
	p.Hello(nil)
	if p.skip != (skip.Skip{Wait: true, Dirty: true}) {
		t.Fatalf("behind Hello it is %+v", p.state())
	}
}

// P40.4: the entries of a Hello for which there is no room are not to come; what is told is the same.
func TestHelloNoRoom(t *testing.T) {
	for room := 6; room < 9; room++ {
		p := made(t, 1, room)
		for range 4 {
			if b := p.Hello(nil); string(b) != helloBytes {
				t.Fatalf("Hello is %q", b)
			}
		}
		three := []api.Entry{hidden(api.EntHello), hidden(api.EntParse), hidden(api.EntSync)}
		p.left(t, append(three, three...)...)
	}
}

// P40.1: what Hello answers is not shared with what the next one does.
func TestHelloApart(t *testing.T) {
	p := made(t, 1, 6)
	clear(p.Hello(nil))
	if b := p.Hello(nil); string(b) != helloBytes {
		t.Fatalf("Hello is %q", b)
	}
}

// P40.1 (the chapter's example): Hello, then the replies of a server: Idle at the last one, and not ahead.
func TestHelloReplies(t *testing.T) {
	p := made(t, 1, 6)
	p.Hello(nil)
	for _, b := range []api.Back{
		{Kind: 'R'}, {Kind: 'S', Name: "a", Value: "b"}, {Kind: 'N', Fields: fault.Make("NOTICE", "00000", "x")}, {Kind: 'K'}, {Kind: 'Z', Status: 'I'}, {Kind: '1'},
	} {
		p.got(t, b, "")
		if p.Idle() {
			t.Fatalf("it is idle behind %c", b.Kind)
		}
	}
	p.got(t, api.Back{Kind: 'Z', Status: 'I'}, "")
	if !p.Idle() {
		t.Fatal("it is not idle")
	}
}

// P40.1: Verdict is skip's; but Hold of what passes, is told to a server, and finds no room for four.
func TestVerdict(t *testing.T) {
	p := made(t, 1, 8)
	for n := 0; n <= 8; n++ {
		for bits := range 8 {
			p.skip = skip.Skip{On: bits&1 != 0, Wait: bits&2 != 0, Dirty: bits&4 != 0}
			was := p.state()
			for kind := range 256 {
				f := plain(byte(kind))
				want := skip.Verdict(p.skip, f.Kind)
				if want == api.Pass && rewrite.Needs(f) && n > 4 {
					want = api.Hold
				}
				if v := p.Verdict(f); v != want {
					t.Errorf("with %d to come and %+v Verdict of %c is %d, not %d", n, p.skip, kind, v, want)
				}
			}
			p.unchanged(t, "Verdict", was)
		}
		p.queue.Push(hidden(api.EntParse))
	}
}

// P40.1: with room for 6, and two to come, a message passes; with three it waits, until a reply comes.
func TestVerdictRoom(t *testing.T) {
	p := begun(t, 1, 6)
	flush := plain('H')
	for n, want := range []int{api.Pass, api.Pass, api.Pass, api.Hold} {
		for _, f := range []api.Front{parse("a", ""), bind("a"), describe("a"), closed("a"), plain('E'), plain('S'), query(""), flush} {
			if v := p.Verdict(f); v != want {
				t.Fatalf("with %d to come Verdict of %c is %d", n, f.Kind, v)
			}
		}
		for _, kind := range "Xpfdc\x00z" {
			if v := p.Verdict(plain(byte(kind))); v != api.Pass {
				t.Fatalf("with %d to come Verdict of %c is %d", n, kind, v)
			}
		}
		p.Send(p.names, plain('E'))
	}
	was := p.state()
	p.send(t, plain('E'), "", "", "")
	p.send(t, flush, "", "", "")
	p.unchanged(t, "Send without room", was)
	p.shown(t, api.Back{Kind: 'I'})
	if v := p.Verdict(flush); v != api.Pass {
		t.Fatalf("behind a reply Verdict is %d", v)
	}
}

// P40.4: Idle hangs on the status, on what is to come, and on each part of what is skipped.
func TestIdle(t *testing.T) {
	for _, status := range []byte{'I', 'T', 'E', 0} {
		for n := range 2 {
			for bits := range 8 {
				p := made(t, 1, 6)
				p.skip = skip.Skip{On: bits&1 != 0, Wait: bits&2 != 0, Dirty: bits&4 != 0}
				p.status = status
				if n > 0 {
					p.queue.Push(hidden(api.EntSync))
				}
				if got := p.Idle(); got != (status == 'I' && n == 0 && bits == 0) {
					t.Errorf("with %d, %d to come and %+v Idle is %v", status, n, p.skip, got)
				}
				if p.Status() != status || p.Len() != n {
					t.Errorf("Status is %d, Len %d", p.Status(), p.Len())
				}
			}
		}
	}
}

// P40.4: Pending tells the ids that names are to have, ahead of those that the server is to have, each in order.
func TestPending(t *testing.T) {
	p := made(t, 4, 8)
	p.queue.Push(
		api.Entry{Kind: api.EntParse, Good: append(set("a", 5), append(unset("b"), set("c", 3)...)...), Bad: set("d", 9), Cache: append(add(7), append(evict(8), add(2)...)...)},
		api.Entry{Kind: api.EntBind, Cache: touch(6)}, api.Entry{Kind: api.EntParse, Hide: true, Cache: add(5)}, api.Entry{Kind: api.EntSynth, Good: set("e", 1)},
	)
	if got := p.Pending(); !slices.Equal(got, []int{5, 3, 1, 7, 2, 5}) {
		t.Fatalf("Pending is %v", got)
	}
}

// P40.1 to P40.4: of what no call made: nothing, Hold, ErrNil, no, 0; names stay as they are.
func TestNotMade(t *testing.T) {
	names, _ := table.New(2)
	names.Set("a", 1)
	for _, x := range []*Link{nil, {}, new(Link)} {
		for range 2 {
			if b := x.Hello([]api.Pair{{Name: "a", Value: "b"}}); len(b) > 0 {
				t.Errorf("Hello is %q", b)
			}
			for kind := range 256 {
				f := api.Front{Kind: byte(kind), What: 'S', Name: "a"}
				if v := x.Verdict(f); v != api.Hold {
					t.Errorf("Verdict of %c is %d", kind, v)
				}
				if a, b, c := x.Send(names, f); len(a)+len(b)+len(c) > 0 {
					t.Errorf("Send of %c is %q, %q, %q", kind, a, b, c)
				}
				if b, status, e := x.Got(names, api.Msg{Type: byte(kind), Body: []byte("I")}); len(b) > 0 || status != 0 || e != api.ErrNil {
					t.Errorf("Got of %c is %q, %d, %d", kind, b, status, e)
				}
			}
			if b := x.Drain(); len(b) > 0 {
				t.Errorf("Drain is %q", b)
			}
			x.Lost()
			if x.Idle() || x.Status() != 0 || x.Len() != 0 || len(x.List())+len(x.Pending())+len(x.Entries()) > 0 {
				t.Errorf("it is %v, %d, %d, %v, %v, %v", x.Idle(), x.Status(), x.Len(), x.List(), x.Pending(), x.Entries())
			}
		}
	}
	if id, ok := names.Get("a"); id != 1 || !ok || names.Len() != 1 {
		t.Errorf("a is %d, %v", id, ok)
	}
}

// P40.4: what List, Pending and Entries answer is not shared with what stands within.
func TestListsApart(t *testing.T) {
	p := begun(t, 4, 16)
	p.send(t, parse("a", "select 1"), "", bytesOf(t, parse("_p1", "select 1")), "")
	p.shown(t, api.Back{Kind: '1'})
	p.send(t, parse("b", "select 2"), "", bytesOf(t, parse("_p2", "select 2")), "")
	p.send(t, closed("a"), "", "", "")
	was := p.state()
	clear(p.List())
	clear(p.Pending())
	l := p.Entries()
	l[0].Good[0], l[0].Cache[0], l[1].Reply[0] = api.TableOp{}, api.CacheOp{}, 'x'
	clear(l)
	p.unchanged(t, "what was answered is cleared", was)
}

// P40.1: links of one registry have no more than that together.
func TestTwoLinks(t *testing.T) {
	p := begun(t, 2, 8)
	x, e := New(p.all, 2, 8)
	if e != api.OK {
		t.Fatal(e)
	}
	p.send(t, parse("a", "select 1"), "", bytesOf(t, parse("_p1", "select 1")), "")
	p.shown(t, api.Back{Kind: '1'})
	own, last, said := x.Send(p.names, bind("a"))
	if string(own) != bytesOf(t, parse("_p1", "select 1")) || string(last) != bytesOf(t, bind("_p1")) || len(said) > 0 {
		t.Fatalf("Send is %q, %q, %q", own, last, said)
	}
	p.refs(t, []int{1}, nil, 3)
	p.Lost()
	p.refs(t, nil, nil, 2)
	if !slices.Equal(x.Pending(), []int{1}) || !bytes.Equal(own, []byte(bytesOf(t, parse("_p1", "select 1")))) {
		t.Fatalf("Pending is %v", x.Pending())
	}
}
