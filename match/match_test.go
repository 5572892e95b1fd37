package match

import (
	"math"
	"slices"
	"testing"

	"remuda/api"
	"remuda/entry"
	"remuda/queue"
)

// ent is an entry of this kind, with this name as From, and with much else; own is one of the pooler's own.
func ent(kind int, from string) api.Entry {
	return api.Entry{
		Kind: kind, From: from, To: "to", Good: []api.TableOp{{Set: true, Name: from, ID: 7}}, Bad: []api.TableOp{{Name: from}},
		Cache: []api.CacheOp{{Kind: api.CacheAdd, ID: 8}}, Reply: []byte("3" + from),
	}
}

func own(kind int, from string) api.Entry {
	e := ent(kind, from)
	e.Hide = true
	return e
}

// made answers a queue with these entries.
func made(t *testing.T, l ...api.Entry) *queue.Queue {
	t.Helper()
	q, e := queue.New(64)
	if e != api.OK || q.Push(l...) != api.OK {
		t.Fatalf("there is no queue of %v", l)
	}
	return q
}

// same tells whether two lists are alike, entry by entry.
func same(a, b []api.Entry) bool { return slices.EqualFunc(a, b, queue.Same) }

// sameResult tells whether two results are alike.
func sameResult(a, b Result) bool {
	return a.Show == b.Show && a.Ready == b.Ready && queue.Same(a.Name, b.Name) &&
		same(a.Ended, b.Ended) && same(a.Failed, b.Failed) && same(a.Dropped, b.Dropped)
}

// got tells whether Got of q and b is want, and OK, and whether just left are to come then.
func got(t *testing.T, what string, q *queue.Queue, b api.Back, want Result, left ...api.Entry) {
	t.Helper()
	r, e := Got(q, b)
	if e != api.OK || !sameResult(r, want) {
		t.Errorf("%s: Got of %c is %+v, %d, not %+v", what, b.Kind, r, e, want)
	}
	if !same(q.List(), left) {
		t.Errorf("%s: behind %c there are %+v, not %+v", what, b.Kind, q.List(), left)
	}
}

// refused tells whether Got of q and b is ErrState, and nothing, and whether all is still to come.
func refused(t *testing.T, what string, q *queue.Queue, b api.Back) {
	t.Helper()
	had := q.List()
	r, e := Got(q, b)
	if e != api.ErrState || !sameResult(r, Result{}) {
		t.Errorf("%s: Got of %q is %+v, %d", what, b.Kind, r, e)
	}
	if !same(q.List(), had) {
		t.Errorf("%s: behind %q there are %+v, not %+v", what, b.Kind, q.List(), had)
	}
}

// say is the reply of this kind, with a status.
func say(kind byte) api.Back { return api.Back{Kind: kind, Status: 'T'} }

// kinds are all kinds of entries, and some that there are not.
func kinds() []int {
	return []int{api.EntHello, api.EntParse, api.EntBind, api.EntStmt, api.EntPortal, api.EntExec, api.EntClose, api.EntSync, api.EntQuery, api.EntSynth, 0, -1, 11, 265, math.MinInt, math.MaxInt}
}

// P22.1: the entries of what is said without a reply are popped, as many as stand first.
func TestFlush(t *testing.T) {
	a, b, c := ent(api.EntSynth, "a"), own(api.EntSynth, "b"), ent(api.EntSynth, "c")
	var want []api.Entry
	for _, said := range [][]api.Entry{nil, {a}, {b}, {a, a}, {a, b, c}, {c, a, b, b, a}} {
		want = said
		q := made(t, said...)
		if l := Flush(q); !same(l, want) || q.Len() != 0 {
			t.Errorf("Flush of %v is %v", said, l)
		}
		for _, kind := range kinds() {
			if kind == api.EntSynth {
				continue
			}
			left := []api.Entry{ent(kind, "x"), a, own(kind, "y"), b}
			q := made(t, append(slices.Clone(said), left...)...)
			if l := Flush(q); !same(l, want) || !same(q.List(), left) {
				t.Errorf("Flush of %v, ahead of the kind %d, is %v, and leaves %v", said, kind, l, q.List())
			}
			if l := Flush(q); len(l) != 0 || !same(q.List(), left) {
				t.Errorf("Flush again is %v, and leaves %v", l, q.List())
			}
		}
	}
}

// P22.1: where nothing is to come, there is nothing to flush, and no reply is taken.
func TestNothing(t *testing.T) {
	for _, q := range []*queue.Queue{nil, {}, made(t)} {
		if l := Flush(q); len(l) != 0 {
			t.Errorf("Flush of nothing is %v", l)
		}
		for kind := range 256 {
			refused(t, "nothing", q, say(byte(kind)))
		}
	}
}

// P22.1: a reply that the first entry does not take is refused, whatever stands behind.
func TestNotTaken(t *testing.T) {
	for _, kind := range kinds() {
		for b := range 256 {
			if entry.Takes(kind, byte(b)) {
				continue
			}
			for _, first := range []api.Entry{ent(kind, "a"), own(kind, "a")} {
				refused(t, "one alone", made(t, first), say(byte(b)))
				refused(t, "one ahead", made(t, first, ent(api.EntQuery, "b"), ent(api.EntSync, "c")), say(byte(b)))
			}
		}
	}
}

// P22.1: what is taken, and neither ends nor fails the entry, leaves all there; it is shown, unless the entry is hidden.
func TestGoesOn(t *testing.T) {
	synth := ent(api.EntSynth, "s")
	for _, c := range []struct {
		kind    int
		replies string
	}{
		{api.EntHello, "RSKN"}, {api.EntParse, "NS"}, {api.EntBind, "NS"}, {api.EntStmt, "tNS"}, {api.EntPortal, "NS"},
		{api.EntExec, "DNS"}, {api.EntClose, "NS"}, {api.EntSync, "NS"}, {api.EntQuery, "TDCIENS"},
	} {
		for _, b := range []byte(c.replies) {
			first, hidden := ent(c.kind, "a"), own(c.kind, "a")
			got(t, "shown", made(t, first), say(b), Result{Show: true, Name: first}, first)
			got(t, "hidden", made(t, hidden), say(b), Result{Name: hidden}, hidden)
			got(t, "said behind", made(t, first, synth), say(b), Result{Show: true, Name: first}, first, synth)
			got(t, "hidden, and one behind", made(t, hidden, first), say(b), Result{Name: hidden}, hidden, first)
		}
	}
}

// P22.1: what ends the entry well pops it, and what is said behind it; a Z tells its status.
func TestEnds(t *testing.T) {
	s1, s2, next := ent(api.EntSynth, "s"), own(api.EntSynth, "t"), ent(api.EntParse, "n")
	for _, c := range []struct {
		kind    int
		replies string
	}{
		{api.EntHello, "Z"}, {api.EntParse, "1"}, {api.EntBind, "2"}, {api.EntStmt, "Tn"}, {api.EntPortal, "Tn"},
		{api.EntExec, "CsI"}, {api.EntClose, "3"}, {api.EntSync, "Z"}, {api.EntQuery, "Z"},
	} {
		for _, b := range []byte(c.replies) {
			var ready byte
			if b == 'Z' {
				ready = 'T'
			}
			for _, first := range []api.Entry{ent(c.kind, "a"), own(c.kind, "a")} {
				alone := Result{Show: !first.Hide, Name: first, Ended: []api.Entry{first}, Ready: ready}
				got(t, "alone", made(t, first), say(b), alone)
				got(t, "one behind", made(t, first, next, s1), say(b), alone, next, s1)
				got(t, "the same behind", made(t, first, first), say(b), alone, first)
				more := alone
				more.Ended = []api.Entry{first, s1, s2}
				got(t, "said behind", made(t, first, s1, s2), say(b), more)
				got(t, "said behind, then one", made(t, first, s1, s2, next, s1), say(b), more, next, s1)
			}
		}
	}
}

// P22.1: a fault fails the entry, and drops all up to the next EntSync.
func TestFails(t *testing.T) {
	sync, s := ent(api.EntSync, "z"), ent(api.EntSynth, "s")
	b, x := ent(api.EntBind, "b"), own(api.EntExec, "x")
	fault := say('E')
	for _, kind := range []int{api.EntHello, api.EntParse, api.EntBind, api.EntStmt, api.EntPortal, api.EntExec, api.EntClose} {
		first := ent(kind, "a")
		alone := Result{Show: true, Name: first, Failed: []api.Entry{first}}
		got(t, "alone", made(t, first), fault, alone)
		got(t, "a sync behind", made(t, first, sync), fault, alone, sync)
		got(t, "a sync behind, then more", made(t, first, sync, s, b, sync), fault, alone, sync, s, b, sync)
		more := alone
		more.Dropped = []api.Entry{b, x, s}
		got(t, "more behind", made(t, first, b, x, s), fault, more)
		got(t, "more behind, then a sync", made(t, first, b, x, s, sync, s), fault, more, sync, s)
		more.Dropped = []api.Entry{s}
		got(t, "said behind, dropped, too", made(t, first, s, sync), fault, more, sync)
		more.Dropped = []api.Entry{ent(api.EntQuery, "q"), ent(api.EntHello, "h")}
		got(t, "a query behind", made(t, first, more.Dropped[0], more.Dropped[1], sync), fault, more, sync)
	}
}

// P22.1: where a hidden one fails, the fault is told of the first one that is dropped, if that is the client's, and would fail by it.
func TestFailsHidden(t *testing.T) {
	sync, fault := ent(api.EntSync, "z"), say('E')
	for _, kind := range []int{api.EntHello, api.EntParse, api.EntBind, api.EntStmt, api.EntPortal, api.EntExec, api.EntClose} {
		first := own(kind, "a")
		unseen := Result{Name: first, Failed: []api.Entry{first}}
		got(t, "alone", made(t, first), fault, unseen)
		got(t, "a sync behind", made(t, first, sync), fault, unseen, sync)
		got(t, "a sync behind, then more", made(t, first, sync, ent(api.EntBind, "b")), fault, unseen, sync, ent(api.EntBind, "b"))
		for _, behind := range kinds() {
			if behind == api.EntSync {
				continue
			}
			next, last := ent(behind, "b"), ent(api.EntExec, "c")
			want := unseen
			if entry.Fails(behind, 'E') {
				want.Show, want.Name = true, next
			}
			want.Dropped = []api.Entry{next}
			got(t, "the client's behind", made(t, first, next), fault, want)
			got(t, "the client's behind, then a sync", made(t, first, next, sync), fault, want, sync)
			want.Dropped = []api.Entry{next, last}
			got(t, "two of the client's behind", made(t, first, next, last, sync), fault, want, sync)
			hidden := own(behind, "b")
			want = unseen
			want.Dropped = []api.Entry{hidden, last}
			got(t, "a hidden one behind, then the client's", made(t, first, hidden, last, sync), fault, want, sync)
		}
	}
}

// P22.1: what fails for all to see is told of that, whatever stands behind.
func TestFailsShown(t *testing.T) {
	first, next := ent(api.EntParse, "a"), own(api.EntBind, "b")
	want := Result{Show: true, Name: first, Failed: []api.Entry{first}, Dropped: []api.Entry{next}}
	got(t, "a hidden one behind", made(t, first, next), say('E'), want)
	want.Dropped = []api.Entry{ent(api.EntBind, "b")}
	got(t, "the client's behind", made(t, first, want.Dropped[0]), say('E'), want)
}

// P22.1: a query's fault neither ends nor fails it.
func TestQueryFault(t *testing.T) {
	first, s := ent(api.EntQuery, "a"), ent(api.EntSynth, "s")
	q := made(t, first, s)
	got(t, "a query", q, say('E'), Result{Show: true, Name: first}, first, s)
	got(t, "a query", q, say('Z'), Result{Show: true, Name: first, Ended: []api.Entry{first, s}, Ready: 'T'})
}

// P22.1: Ready is the status of a Z, whatever it is, and of no other reply.
func TestReady(t *testing.T) {
	for status := range 256 {
		for _, first := range []api.Entry{ent(api.EntSync, "a"), own(api.EntSync, "a"), ent(api.EntQuery, "a"), ent(api.EntHello, "a")} {
			want := Result{Show: !first.Hide, Name: first, Ended: []api.Entry{first}, Ready: byte(status)}
			got(t, "a Z", made(t, first), api.Back{Kind: 'Z', Status: byte(status), Tag: "x"}, want)
		}
		first := ent(api.EntParse, "a")
		for _, b := range []byte("1E") {
			if r, e := Got(made(t, first), api.Back{Kind: b, Status: byte(status)}); e != api.OK || r.Ready != 0 {
				t.Errorf("of %c with the status %d Ready is %d", b, status, r.Ready)
			}
		}
	}
}

// P22.1: what else the reply says counts for nothing.
func TestBack(t *testing.T) {
	first := ent(api.EntExec, "a")
	for _, b := range []api.Back{
		{Kind: 'C', Status: 'Z', Tag: "Z", Name: "E", Value: "x", N: 3, M: -1, OIDs: []int{1}, Cols: []api.Col{{}}, Row: []api.Cell{{Null: true}}, Fields: []api.Field{{Code: 'C', Text: "x"}}},
		{Kind: 'C'},
	} {
		got(t, "a tag", made(t, first), b, Result{Show: true, Name: first, Ended: []api.Entry{first}})
	}
}

// spoil changes all that stands in the lists of l, and in l.
func spoil(l []api.Entry) {
	_ = append(l, api.Entry{Kind: 97})
	for i := range l {
		for j := range l[i].Good {
			l[i].Good[j].Name = "spoilt"
		}
		for j := range l[i].Bad {
			l[i].Bad[j].Name = "spoilt"
		}
		for j := range l[i].Cache {
			l[i].Cache[j].ID = 99
		}
		for j := range l[i].Reply {
			l[i].Reply[j] = 99
		}
		l[i] = api.Entry{Kind: 99}
	}
}

// P22.1: what is answered shares nothing with what is still to come, nor Name with the other lists.
func TestApart(t *testing.T) {
	first, hidden, next, sync, s := ent(api.EntExec, "a"), own(api.EntParse, "h"), ent(api.EntBind, "b"), ent(api.EntSync, "z"), ent(api.EntSynth, "s")
	for _, c := range []struct {
		l    []api.Entry
		b    byte
		left []api.Entry
	}{
		{[]api.Entry{first, s, sync}, 'D', []api.Entry{first, s, sync}},
		{[]api.Entry{first, s, s, sync, next}, 'C', []api.Entry{sync, next}},
		{[]api.Entry{first, s, next, sync, next}, 'E', []api.Entry{sync, next}},
		{[]api.Entry{hidden, next, s, sync, next}, 'E', []api.Entry{sync, next}},
	} {
		q := made(t, c.l...)
		r, e := Got(q, say(c.b))
		again, eAgain := Got(made(t, c.l...), say(c.b))
		if e != api.OK || eAgain != api.OK || !sameResult(r, again) {
			t.Fatalf("Got is %v, %d, and %v, %d", r, e, again, eAgain)
		}
		spoil([]api.Entry{r.Name})
		if !same(r.Ended, again.Ended) || !same(r.Failed, again.Failed) || !same(r.Dropped, again.Dropped) {
			t.Errorf("Name shares with the lists: %+v", r)
		}
		spoil(r.Failed)
		spoil(r.Ended)
		spoil(r.Dropped)
		if !same(q.List(), c.left) {
			t.Errorf("there are %+v, not %+v", q.List(), c.left)
		}
	}
	q := made(t, s, s, sync)
	spoil(Flush(q))
	if !same(q.List(), []api.Entry{sync}) {
		t.Errorf("there are %+v behind a Flush", q.List())
	}
}

// told counts each entry of these lists by its From.
func told(lists ...[]api.Entry) map[string]int {
	n := map[string]int{}
	for _, l := range lists {
		for _, e := range l {
			n[e.From]++
		}
	}
	return n
}

// P22.2: whatever comes, each entry that was there is there still, or ended, or failed, or dropped: one of these, once, and in order.
func TestOnce(t *testing.T) {
	for seed := range uint32(200) {
		state := seed
		next := func(n int) int {
			state = state*1664525 + 1013904223
			return int(state>>16) % n
		}
		var had []api.Entry
		for i := range 1 + next(20) {
			e := ent(kinds()[next(10)], string(rune('A'+i)))
			e.Hide = next(3) == 0
			had = append(had, e)
		}
		q := made(t, had...)
		var out []api.Entry
		for range 200 {
			was := q.List()
			r, e := Got(q, say("123CDEIKNRSTZnst"[next(16)]))
			if e != api.OK && (e != api.ErrState || !sameResult(r, Result{}) || !same(was, q.List())) {
				t.Fatalf("Got is %v, %d", r, e)
			}
			// The failed one stands ahead of what is dropped for it, and what is said behind both.
			gone := slices.Concat(r.Failed, r.Dropped, r.Ended)
			if !same(slices.Concat(gone, q.List()), was) {
				t.Fatalf("of %v there are %+v, and %v", was, r, q.List())
			}
			if next(4) == 0 {
				gone = append(gone, Flush(q)...)
			}
			out = append(out, gone...)
		}
		if !same(append(out, q.List()...), had) {
			t.Fatalf("of %v all in all there are %v, and %v", had, out, q.List())
		}
		for from, n := range told(out, q.List()) {
			if n != 1 {
				t.Fatalf("%q is told %d times", from, n)
			}
		}
	}
}

// P22.1, P22.2: the chapter's example, and a run of a session's beginning.
func TestRuns(t *testing.T) {
	p, b, z := ent(api.EntParse, "p"), ent(api.EntBind, "b"), ent(api.EntSync, "z")
	q := made(t, p, b, z)
	got(t, "parse, bind, sync", q, say('E'), Result{Show: true, Name: p, Failed: []api.Entry{p}, Dropped: []api.Entry{b}}, z)
	refused(t, "a second fault", q, say('E'))
	got(t, "parse, bind, sync", q, say('Z'), Result{Show: true, Name: z, Ended: []api.Entry{z}, Ready: 'T'})
	refused(t, "a second Z", q, say('Z'))

	h, hp, hz := own(api.EntHello, "h"), own(api.EntParse, "p"), own(api.EntSync, "z")
	q = made(t, h, hp, hz)
	for _, kind := range []byte("RSSK") {
		got(t, "what is said first", q, say(kind), Result{Name: h}, h, hp, hz)
	}
	got(t, "what is said first", q, say('Z'), Result{Name: h, Ended: []api.Entry{h}, Ready: 'T'}, hp, hz)
	got(t, "what is said first", q, say('1'), Result{Name: hp, Ended: []api.Entry{hp}}, hz)
	got(t, "what is said first", q, say('Z'), Result{Name: hz, Ended: []api.Entry{hz}, Ready: 'T'})
}
