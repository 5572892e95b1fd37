package link

import (
	"slices"
	"testing"

	"remuda/api"
	"remuda/drain"
	"remuda/skip"
)

// syncBytes and rollbackBytes are what a server is told once its client is gone.
const (
	syncBytes     = "S\x00\x00\x00\x04"
	rollbackBytes = "Q\x00\x00\x00\x0drollback\x00"
)

// drains checks what Drain tells the server.
func (p part) drains(t *testing.T, want string) {
	t.Helper()
	if b := p.Drain(); string(b) != want {
		t.Fatalf("Drain is %q, not %q", b, want)
	}
}

// P40.4: what is idle is told nothing, and stays so.
func TestDrainIdle(t *testing.T) {
	for _, p := range []part{made(t, 1, 6), begun(t, 1, 6)} {
		was := p.state()
		p.drains(t, "")
		p.unchanged(t, "Drain of what is idle", was)
	}
}

// P40.4: behind what was sent without an S, a server is told one, and its Z is awaited, unseen.
func TestDrainSync(t *testing.T) {
	p := begun(t, 2, 6)
	p.send(t, plain('E'), "", bytesOf(t, plain('E')), "")
	p.drains(t, syncBytes)
	p.left(t, hidden(api.EntExec), hidden(api.EntSync))
	if p.skip != (skip.Skip{Wait: true, Dirty: true}) {
		t.Fatalf("it is %+v", p.skip)
	}
	was := p.state()
	p.drains(t, "")
	p.unchanged(t, "Drain again", was)
	p.got(t, api.Back{Kind: 'I'}, "")
	p.drains(t, "")
	p.got(t, api.Back{Kind: 'Z', Status: 'I'}, "")
	if !p.Idle() {
		t.Fatalf("it is %+v", p.state())
	}
}

// P40.4: where all is skipped, and nothing is to come, a server is told an S, too.
func TestDrainSkipped(t *testing.T) {
	p := begun(t, 2, 6)
	p.send(t, bind("a"), "", bytesOf(t, bind("_none")), "")
	p.shown(t, failure("X", "y"))
	p.drains(t, syncBytes)
	p.left(t, hidden(api.EntSync))
	if p.skip != (skip.Skip{Wait: true, Dirty: true}) {
		t.Fatalf("it is %+v", p.skip)
	}
}

// P40.4: where a Z is to come, a server is told nothing; nor where anything is, of which nothing was sent since the last Z.
func TestDrainWait(t *testing.T) {
	for _, f := range []api.Front{plain('S'), query("begin")} {
		p := begun(t, 2, 6)
		p.send(t, f, "", bytesOf(t, f), "")
		p.drains(t, "")
		if p.Len() != 1 || !p.Entries()[0].Hide || p.skip != (skip.Skip{Wait: true, Dirty: true}) {
			t.Fatalf("it is %+v", p.state())
		}
		p.got(t, api.Back{Kind: 'Z', Status: 'I'}, "")
		p.drains(t, "")
	}
	p := made(t, 1, 6)
	p.Hello(nil)
	p.got(t, api.Back{Kind: 'Z', Status: 'I'}, "")
	was := p.state()
	p.drains(t, "")
	p.unchanged(t, "Drain ahead of the last Z", was)
}

// P40.4: what has a transaction is told to roll it back.
func TestDrainRollback(t *testing.T) {
	for _, status := range []byte{'T', 'E'} {
		p := begun(t, 2, 6)
		p.send(t, plain('S'), "", bytesOf(t, plain('S')), "")
		p.shown(t, api.Back{Kind: 'Z', Status: status})
		p.drains(t, rollbackBytes)
		p.left(t, hidden(api.EntQuery))
		if p.skip != (skip.Skip{Wait: true, Dirty: true}) || p.Status() != status || p.Idle() {
			t.Fatalf("it is %+v", p.state())
		}
		p.drains(t, "")
		p.got(t, api.Back{Kind: 'C', Tag: "ROLLBACK"}, "")
		p.got(t, api.Back{Kind: 'Z', Status: 'I'}, "")
		if !p.Idle() {
			t.Fatalf("it is %+v", p.state())
		}
	}
}

// P40.4: of each status, of how much is to come, and of what is skipped the plan is drain's.
func TestDrainPlan(t *testing.T) {
	for _, status := range []byte{'I', 'T', 'E'} {
		for n := range 3 {
			for bits := range 8 {
				s := skip.Skip{On: bits&1 != 0, Wait: bits&2 != 0, Dirty: bits&4 != 0}
				p := made(t, 1, 6)
				p.status, p.skip = status, s
				var want []api.Entry
				for range n {
					p.queue.Push(api.Entry{Kind: api.EntExec})
					want = append(want, hidden(api.EntExec))
				}
				plan := drain.Plan(status, n, s)
				switch plan {
				case drain.Sync:
					want, s = append(want, hidden(api.EntSync)), skip.Sent(s, 'S')
				case drain.Rollback:
					want, s = append(want, hidden(api.EntQuery)), skip.Sent(s, 'Q')
				}
				p.drains(t, string(drain.Bytes(plan)))
				p.left(t, want...)
				if p.skip != s || p.Status() != status {
					t.Errorf("it is %+v, not %+v", p.state(), s)
				}
			}
		}
	}
}

// P40.4: what is to come is hidden, and of no name any more; what the server is to have stays.
func TestDrainHides(t *testing.T) {
	p := begun(t, 2, 16)
	p.send(t, parse("", "select 1"), "", bytesOf(t, parse("_p1", "select 1")), "")
	p.shown(t, api.Back{Kind: '1'})
	p.send(t, parse("", "select 2"), "", bytesOf(t, parse("_p2", "select 2")), "")
	p.send(t, parse("b", "select 2"), "", bytesOf(t, parse("", "select 2")), "")
	p.send(t, closed(""), "", "", "")
	p.refs(t, []int{1}, []int{2, 2, 2}, 2, 3)
	p.drains(t, syncBytes)
	p.left(t, api.Entry{Kind: api.EntParse, Hide: true, Cache: add(2)}, api.Entry{Kind: api.EntParse, Hide: true, Cache: touch(2)},
		api.Entry{Kind: api.EntSynth, Hide: true, Reply: []byte(told3())}, hidden(api.EntSync))
	p.refs(t, []int{1}, []int{2}, 2, 1)
	p.got(t, api.Back{Kind: '1'}, "")
	p.refs(t, []int{1, 2}, nil, 2, 1)
	p.got(t, api.Back{Kind: '1'}, "")
	p.left(t, hidden(api.EntSync))
	p.has(t, api.Named{ID: 1})
	p.got(t, api.Back{Kind: 'Z', Status: 'I'}, "")
	p.refs(t, []int{1, 2}, nil, 2, 1)
}

// P40.4: what is hidden, and fails, changes no name, and is told to nobody.
func TestDrainFails(t *testing.T) {
	p := begun(t, 2, 16)
	p.send(t, parse("", "select 1"), "", bytesOf(t, parse("_p1", "select 1")), "")
	p.shown(t, api.Back{Kind: '1'})
	p.send(t, parse("", "bad"), "", bytesOf(t, parse("_p2", "bad")), "")
	p.drains(t, syncBytes)
	p.got(t, failure("42601", "syntax error"), "")
	p.has(t, api.Named{ID: 1})
	p.refs(t, []int{1}, nil, 2)
	p.left(t, hidden(api.EntSync))
}

// P40.4: what is lost has nothing, is to reply nothing, and skips nothing; what names stand for stays.
func TestLost(t *testing.T) {
	p := begun(t, 1, 16)
	p.send(t, parse("a", "select 1"), "", bytesOf(t, parse("_p1", "select 1")), "")
	p.shown(t, api.Back{Kind: '1'})
	p.send(t, parse("b", "select 2"), bytesOf(t, closed("_p1")), bytesOf(t, parse("_p2", "select 2")), "")
	p.send(t, bind("a"), bytesOf(t, closed("_p2"), parse("_p1", "select 1")), bytesOf(t, bind("_p1")), "")
	p.send(t, closed("a"), "", "", "")
	p.refs(t, []int{1}, []int{2, 2, 1}, 3, 2)
	for range 2 {
		p.Lost()
		p.left(t)
		p.refs(t, nil, nil, 1)
		p.has(t, api.Named{Name: "a", ID: 1})
		if p.skip != (skip.Skip{}) || !p.Idle() {
			t.Fatalf("it is %+v", p.state())
		}
	}
}

// P40.4: what is lost has the bounds that it had, and can begin again.
func TestLostBounds(t *testing.T) {
	p := begun(t, 1, 6)
	p.skip = skip.Skip{On: true, Wait: true, Dirty: true}
	p.Lost()
	if b := p.Hello(nil); string(b) != helloBytes {
		t.Fatalf("Hello is %q", b)
	}
	if p.Hello(nil); p.Len() != 6 {
		t.Fatalf("Len is %d", p.Len())
	}
	if p.Hello(nil); p.Len() != 6 {
		t.Fatalf("Len is %d", p.Len())
	}
	p.Lost()
	p.send(t, parse("a", "select 1"), "", bytesOf(t, parse("_p1", "select 1")), "")
	p.shown(t, api.Back{Kind: '1'})
	p.send(t, parse("b", "select 2"), bytesOf(t, closed("_p1")), bytesOf(t, parse("_p2", "select 2")), "")
}

// P40.4: the status of what is lost stays, so that with a transaction it is not idle.
func TestLostStatus(t *testing.T) {
	p := begun(t, 1, 6)
	p.send(t, query("begin"), "", bytesOf(t, query("begin")), "")
	p.shown(t, api.Back{Kind: 'Z', Status: 'T'})
	p.Lost()
	if p.Status() != 'T' || p.Idle() {
		t.Fatalf("it is %+v", p.state())
	}
}

// P40.4: what Drain answers is not shared with what the next one does.
func TestDrainApart(t *testing.T) {
	for range 2 {
		p := begun(t, 1, 6)
		p.send(t, plain('E'), "", bytesOf(t, plain('E')), "")
		b := p.Drain()
		if !slices.Equal(b, []byte(syncBytes)) {
			t.Fatalf("Drain is %q", b)
		}
		clear(b)
	}
}
