package link

import (
	"slices"
	"strings"
	"testing"

	"remuda/api"
	"remuda/key"
	"remuda/reg"
	"remuda/rewrite"
	"remuda/skip"
)

// P40.2: a statement that is new is prepared by the server's name, and refers twice.
func TestSendParse(t *testing.T) {
	p := begun(t, 1, 8)
	f := api.Front{Kind: 'P', Name: "a", Text: "select 1", OIDs: []int{23, 0}}
	p.send(t, f, "", "P\x00\x00\x00\x1b_p1\x00select 1\x00\x00\x02\x00\x00\x00\x17\x00\x00\x00\x00", "")
	p.left(t, api.Entry{Kind: api.EntParse, Good: set("a", 1), Cache: add(1)})
	p.refs(t, nil, []int{1, 1}, 2)
	p.has(t)
	if p.skip != (skip.Skip{Dirty: true}) || p.Idle() {
		t.Fatalf("it is %+v", p.state())
	}
	p.shown(t, api.Back{Kind: '1'})
	p.left(t)
	p.refs(t, []int{1}, nil, 2)
	p.has(t, api.Named{Name: "a", ID: 1})
}

// P40.2: what is told ahead, and what is told of the message, are two answers: a Close, then a Close and a Parse.
func TestSendOwn(t *testing.T) {
	p := begun(t, 1, 8)
	p.send(t, parse("a", "select 1"), "", bytesOf(t, parse("_p1", "select 1")), "")
	p.shown(t, api.Back{Kind: '1'})
	p.send(t, parse("b", "select 2"), bytesOf(t, closed("_p1")), bytesOf(t, parse("_p2", "select 2")), "")
	p.left(t, api.Entry{Kind: api.EntClose, Hide: true, Cache: evict(1)}, api.Entry{Kind: api.EntParse, Good: set("b", 2), Cache: add(2)})
	p.refs(t, []int{1}, []int{2, 2}, 2, 2)
	p.got(t, api.Back{Kind: '3'}, "")
	p.refs(t, nil, []int{2, 2}, 1, 2)
	p.shown(t, api.Back{Kind: '1'})
	p.refs(t, []int{2}, nil, 1, 2)
	p.send(t, bind("a"), bytesOf(t, closed("_p2"), parse("_p1", "select 1")), bytesOf(t, bind("_p1")), "")
	p.left(t, api.Entry{Kind: api.EntClose, Hide: true, Cache: evict(2)}, api.Entry{Kind: api.EntParse, Hide: true, Cache: add(1)},
		api.Entry{Kind: api.EntBind, From: "_p1", To: "a", Cache: touch(1)})
	p.refs(t, []int{2}, []int{1}, 2, 2)
	p.got(t, api.Back{Kind: '3'}, "")
	p.got(t, api.Back{Kind: '1'}, "")
	p.shown(t, api.Back{Kind: '2'})
	p.refs(t, []int{1}, nil, 2, 1)
}

// P40.2: what the server will have counts, and what names will be: both are known from what is to come.
func TestSendComing(t *testing.T) {
	p := begun(t, 2, 16)
	p.send(t, parse("a", "select 1"), "", bytesOf(t, parse("_p1", "select 1")), "")
	p.send(t, parse("b", "select 1"), "", bytesOf(t, parse("", "select 1")), "")
	p.send(t, parse("a", "select 2"), "", bytesOf(t, parse("_dup", "select 2")), "")
	p.send(t, bind("b"), "", bytesOf(t, bind("_p1")), "")
	p.send(t, closed("a"), "", "", "")
	p.send(t, describe("a"), "", bytesOf(t, describe("_none")), "")
	p.send(t, parse("a", "select 2"), "", bytesOf(t, parse("_p2", "select 2")), "")
	p.send(t, parse("c", "select 3"), bytesOf(t, closed("_p1")), bytesOf(t, parse("_p3", "select 3")), "")
	p.refs(t, nil, []int{1, 1, 2, 3, 1, 2, 3}, 3, 2, 2)
	p.has(t)
}

// P40.2: the names are those of the table that is handed in.
func TestSendTable(t *testing.T) {
	p := begun(t, 2, 16)
	p.send(t, parse("a", "select 1"), "", bytesOf(t, parse("_p1", "select 1")), "")
	p.shown(t, api.Back{Kind: '1'})
	other := begun(t, 2, 16)
	if _, last, _ := p.Send(other.names, bind("a")); string(last) != bytesOf(t, bind("_none")) {
		t.Errorf("of names that have none told is %q", last)
	}
	if _, last, _ := p.Send(nil, bind("a")); string(last) != bytesOf(t, bind("_none")) {
		t.Errorf("of no names told is %q", last)
	}
	p.send(t, bind("a"), "", bytesOf(t, bind("_p1")), "")
}

// P40.2: a name that is closed, when nothing is to come, is gone at once: the client is told, the server is not.
func TestSendClose(t *testing.T) {
	p := begun(t, 2, 8)
	was := p.state()
	p.send(t, closed("a"), "", "", told3())
	p.unchanged(t, "a name that is not there", was)
	p.send(t, parse("a", "select 1"), "", bytesOf(t, parse("_p1", "select 1")), "")
	p.shown(t, api.Back{Kind: '1'})
	p.send(t, plain('S'), "", bytesOf(t, plain('S')), "")
	p.shown(t, api.Back{Kind: 'Z', Status: 'I'})
	p.refs(t, []int{1}, nil, 2)
	p.send(t, closed("a"), "", "", told3())
	p.has(t)
	p.refs(t, []int{1}, nil, 1)
	p.left(t)
	if !p.Idle() {
		t.Fatalf("it is not idle, but %+v", p.state())
	}
}

// P40.2: a name that is closed, when something is to come, waits for that; so do others behind it.
func TestSendCloseBehind(t *testing.T) {
	p := begun(t, 2, 16)
	p.send(t, parse("a", "select 1"), "", bytesOf(t, parse("_p1", "select 1")), "")
	p.send(t, closed("a"), "", "", "")
	p.send(t, closed("b"), "", "", "")
	p.send(t, plain('E'), "", bytesOf(t, plain('E')), "")
	p.send(t, closed("c"), "", "", "")
	synth := func(name string) api.Entry {
		return api.Entry{Kind: api.EntSynth, Good: unset(name), Reply: []byte(told3())}
	}
	p.left(t, api.Entry{Kind: api.EntParse, Good: set("a", 1), Cache: add(1)}, synth("a"), synth("b"), api.Entry{Kind: api.EntExec}, synth("c"))
	p.got(t, api.Back{Kind: '1'}, saidOf(api.Back{Kind: '1'})+told3()+told3())
	p.has(t)
	p.refs(t, []int{1}, nil, 1)
	p.left(t, api.Entry{Kind: api.EntExec}, synth("c"))
	p.got(t, api.Back{Kind: 'C', Tag: "x"}, saidOf(api.Back{Kind: 'C', Tag: "x"})+told3())
	p.left(t)
}

// P40.2: what is sent without a change of names has its entry, and is noted by its kind.
func TestSendPlain(t *testing.T) {
	for _, c := range []struct {
		f    api.Front
		e    api.Entry
		skip skip.Skip
	}{
		{api.Front{Kind: 'D', What: 'P', Portal: "x"}, api.Entry{Kind: api.EntPortal}, skip.Skip{Dirty: true}},
		{api.Front{Kind: 'C', What: 'P', Portal: "x"}, api.Entry{Kind: api.EntClose}, skip.Skip{Dirty: true}},
		{api.Front{Kind: 'E', Portal: "x", Max: 7}, api.Entry{Kind: api.EntExec}, skip.Skip{Dirty: true}},
		{plain('S'), api.Entry{Kind: api.EntSync}, skip.Skip{Dirty: true, Wait: true}},
		{query("begin"), api.Entry{Kind: api.EntQuery, Good: unset("")}, skip.Skip{Dirty: true, Wait: true}},
		{bind("a"), api.Entry{Kind: api.EntBind, From: "_none", To: "a"}, skip.Skip{Dirty: true}},
	} {
		p := begun(t, 2, 8)
		f := c.f
		if f.Kind == 'B' {
			f.Name = "_none"
		}
		p.send(t, c.f, "", bytesOf(t, f), "")
		p.left(t, c.e)
		p.refs(t, nil, nil)
		if p.skip != c.skip {
			t.Errorf("behind %c it is %+v", c.f.Kind, p.skip)
		}
	}
}

// P40.2: an H is told, and nothing is to come of it; nothing else changes.
func TestSendFlush(t *testing.T) {
	p := begun(t, 2, 8)
	was := p.state()
	p.send(t, plain('H'), "", "H\x00\x00\x00\x04", "")
	p.unchanged(t, "an H", was)
}

// P40.2: what no server is told changes nothing: an X, and what is not served.
func TestSendNothing(t *testing.T) {
	for kind := range 256 {
		f := api.Front{Kind: byte(kind), Name: "a", Text: "select 1"}
		if rewrite.Needs(f) {
			continue
		}
		p := begun(t, 2, 8)
		was := p.state()
		p.send(t, f, "", "", "")
		p.unchanged(t, "the kind "+string(rune(kind)), was)
	}
}

// P40.2: a statement without a key is told to nobody.
func TestSendLong(t *testing.T) {
	p := begun(t, 2, 8)
	was := p.state()
	f := parse("a", strings.Repeat("x", 1<<20+1))
	if key.Of(api.Stmt{Text: f.Text}) != "" {
		t.Fatal("it has a key")
	}
	p.send(t, f, "", "", "")
	p.unchanged(t, "too long a text", was)
}

// P40.2: what waits, or counts for nothing, is not sent, and changes nothing.
func TestSendNotPass(t *testing.T) {
	all := []api.Front{parse("a", "select 1"), bind("b"), describe("b"), closed("b"), plain('E'), query("x"), plain('H'), plain('S')}
	for _, s := range []skip.Skip{{Wait: true}, {On: true}, {On: true, Wait: true, Dirty: true}} {
		for _, f := range all {
			p := begun(t, 2, 8)
			p.send(t, parse("b", "select 2"), "", bytesOf(t, parse("_p1", "select 2")), "")
			p.shown(t, api.Back{Kind: '1'})
			p.skip = s
			if p.Verdict(f) == api.Pass {
				continue
			}
			was := p.state()
			p.send(t, f, "", "", "")
			p.unchanged(t, "Send of what does not pass", was)
		}
	}
}

// P40.2: an S goes on where all is skipped, and ends that.
func TestSendSync(t *testing.T) {
	p := begun(t, 2, 8)
	p.skip = skip.Skip{On: true}
	p.send(t, closed("a"), "", "", "")
	p.send(t, plain('S'), "", bytesOf(t, plain('S')), "")
	if p.skip != (skip.Skip{Wait: true, Dirty: true}) {
		t.Fatalf("it is %+v", p.skip)
	}
	p.send(t, parse("a", "select 1"), "", "", "")
	p.shown(t, api.Back{Kind: 'Z', Status: 'I'})
	p.send(t, parse("a", "select 1"), "", bytesOf(t, parse("_p1", "select 1")), "")
}

// P40.2: where nothing was to come, names that nobody has are deleted of no table, too.
func TestSendNoTable(t *testing.T) {
	p := begun(t, 2, 8)
	own, last, said := p.Send(nil, closed("a"))
	if len(own)+len(last) > 0 || string(said) != told3() || p.Len() != 0 {
		t.Fatalf("Send is %q, %q, %q", own, last, said)
	}
}

// P40.2: f is neither kept nor changed, and the answers are not shared.
func TestSendApart(t *testing.T) {
	p := begun(t, 1, 16)
	oids := []int{23, 25, 99}
	p.Send(p.names, api.Front{Kind: 'P', Name: "a", Text: "select 1", OIDs: oids[:2]})
	if !slices.Equal(oids, []int{23, 25, 99}) {
		t.Fatalf("the types are %v", oids)
	}
	oids[0] = 7
	p.shown(t, api.Back{Kind: '1'})
	if s, ok := p.all.Get(1); !ok || !slices.Equal(s.OIDs, []int{23, 25}) {
		t.Fatalf("the statement is %v", s)
	}
	_, _, said := p.Send(p.names, closed("x"))
	clear(said)
	p.send(t, closed("x"), "", "", told3())
	p.send(t, plain('E'), "", bytesOf(t, plain('E')), "")
	p.send(t, closed("x"), "", "", "")
	p.got(t, api.Back{Kind: 'I'}, saidOf(api.Back{Kind: 'I'})+told3())
}

// P40.2: of a registry that no call made a P is told to nobody.
func TestSendNoRegistry(t *testing.T) {
	x, e := New(&reg.Registry{}, 1, 6)
	if e != api.OK {
		t.Fatal(e)
	}
	if a, b, c := x.Send(nil, parse("a", "select 1")); len(a)+len(b)+len(c) > 0 || !x.Idle() {
		t.Fatalf("Send is %q, %q, %q", a, b, c)
	}
}

// P40.2: where anything is to come, nothing is said at once, whatever that is.
func TestSendNotEmpty(t *testing.T) {
	p := begun(t, 2, 8)
	synth := api.Entry{Kind: api.EntSynth, Reply: []byte("a")}
	p.queue.Push(synth)
	p.send(t, plain('E'), "", bytesOf(t, plain('E')), "")
	p.left(t, synth, api.Entry{Kind: api.EntExec})
}
