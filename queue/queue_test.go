package queue

import (
	"math"
	"slices"
	"testing"

	"remuda/api"
)

// set and gone are what becomes of a client's name.
func set(name string, id int) api.TableOp  { return api.TableOp{Set: true, Name: name, ID: id} }
func gone(name string, id int) api.TableOp { return api.TableOp{Name: name, ID: id} }

// kinds are all kinds of entries, and some that there are not.
func kinds() []int {
	return []int{api.EntHello, api.EntParse, api.EntBind, api.EntStmt, api.EntPortal, api.EntExec, api.EntClose, api.EntSync, api.EntQuery, api.EntSynth, 0, -1, 11, math.MinInt, math.MaxInt}
}

// some answers n entries, all unlike each other, of which the i-th has names and ops that hang on i.
func some(n int) []api.Entry {
	var l []api.Entry
	for i := range n {
		e := api.Entry{Kind: kinds()[i%len(kinds())], Hide: i%3 == 0, From: string(rune('a' + i%26)), To: string(rune('A' + i%26))}
		e.Good = []api.TableOp{set("a", 100+i), gone("b", 200+i), set("c", 300+i)}[:i%4]
		e.Bad = []api.TableOp{gone("d", 400+i), set("e", 500+i)}[:i%3]
		e.Cache = []api.CacheOp{{Kind: api.CacheAdd, ID: i}, {Kind: api.CacheEvict, ID: i}}[:i%3]
		e.Reply = []byte{'3', byte(i), byte(i >> 8)}
		l = append(l, e)
	}
	return l
}

// same tells whether two lists are alike, entry by entry.
func same(a, b []api.Entry) bool { return slices.EqualFunc(a, b, Same) }

// made answers a queue with room for most, and these entries.
func made(t *testing.T, most int, l ...api.Entry) *Queue {
	t.Helper()
	q, e := New(most)
	if e != api.OK || q == nil {
		t.Fatalf("New(%d) is %v, %d", most, q, e)
	}
	if e := q.Push(l...); e != api.OK {
		t.Fatalf("Push of %d with room for %d is %d", len(l), most, e)
	}
	check(t, q, l...)
	return q
}

// check tells whether q has just these entries, in this order, by all calls that change nothing.
func check(t *testing.T, q *Queue, want ...api.Entry) {
	t.Helper()
	if got := q.List(); !same(got, want) {
		t.Fatalf("List is %.300v, not %.300v", got, want)
	}
	if q.Len() != len(want) {
		t.Fatalf("Len is %d of %d", q.Len(), len(want))
	}
	head(t, "Head", want)(q.Head())
}

// head tells whether the first of want was answered, or nothing, if there is none.
func head(t *testing.T, what string, want []api.Entry) func(api.Entry, bool) {
	t.Helper()
	return func(got api.Entry, ok bool) {
		t.Helper()
		first := api.Entry{}
		if len(want) > 0 {
			first = want[0]
		}
		if !Same(got, first) || ok != (len(want) > 0) {
			t.Fatalf("%s is %v, %v, not %v", what, got, ok, first)
		}
	}
}

// P21.1: there is room for 1 to 4096 entries, and none at first.
func TestNew(t *testing.T) {
	for _, most := range []int{1, 2, 3, 64, 256, 4095, 4096} {
		q := made(t, most)
		if got := q.Skip(); len(got) != 0 {
			t.Errorf("Skip of nothing is %v", got)
		}
		if got := q.Hide(); len(got) != 0 {
			t.Errorf("Hide of nothing is %v", got)
		}
		head(t, "Pop", nil)(q.Pop())
		check(t, q)
	}
	for _, most := range []int{math.MinInt, math.MinInt32, -4096, -1, 0, 4097, 8192, 65535, 1 << 32, 1<<32 + 1, math.MaxInt} {
		if q, e := New(most); q != nil || e != api.ErrArg {
			t.Errorf("New(%d) is %v, %d", most, q, e)
		}
	}
}

// P21.1: whatever is pushed stands behind, in order, one at a time or many.
func TestPush(t *testing.T) {
	l := some(40)
	for _, step := range []int{1, 2, 3, 7, 40} {
		q := made(t, 40)
		for at := 0; at < len(l); at += step {
			end := min(at+step, len(l))
			if e := q.Push(l[at:end]...); e != api.OK {
				t.Fatalf("Push is %d", e)
			}
			check(t, q, l[:end]...)
			if e := q.Push(); e != api.OK {
				t.Fatalf("Push of nothing is %d", e)
			}
			check(t, q, l[:end]...)
		}
	}
}

// P21.1: entries that are alike, or that are nothing, count as any other.
func TestPushAlike(t *testing.T) {
	zero := api.Entry{}
	q := made(t, 4, zero, zero)
	if e := q.Push(some(2)[1], some(2)[1]); e != api.OK {
		t.Fatalf("Push is %d", e)
	}
	check(t, q, zero, zero, some(2)[1], some(2)[1])
	if e := q.Push(zero); e != api.ErrFull {
		t.Fatalf("Push is %d, though it is full", e)
	}
}

// P21.1: of what there is no room for none is taken; what fits just so is.
func TestPushFull(t *testing.T) {
	for _, most := range []int{1, 2, 3, 64, 4095, 4096} {
		l := some(most)
		for _, had := range []int{0, 1, most / 2, most - 1, most} {
			q := made(t, most, l[:had]...)
			left := most - had
			for _, more := range []int{left + 1, left + 2, left + most, 5000} {
				if e := q.Push(some(more)...); e != api.ErrFull {
					t.Fatalf("Push of %d is %d with room for %d", more, e, left)
				}
			}
			check(t, q, l[:had]...)
			if e := q.Push(l[had:]...); e != api.OK {
				t.Fatalf("Push of %d is %d with room for them", left, e)
			}
			check(t, q, l...)
			if e := q.Push(); e != api.OK {
				t.Fatalf("Push of nothing is %d, though it needs no room", e)
			}
			check(t, q, l...)
		}
	}
}

// P21.1: what is popped, or skipped, makes room for as many.
func TestRoomAgain(t *testing.T) {
	l := some(12)
	q := made(t, 3, l[:3]...)
	for i := 3; i < 12; i++ {
		q.Pop()
		if e := q.Push(l[i], l[i]); e != api.ErrFull {
			t.Fatalf("Push of two is %d with room for one", e)
		}
		if e := q.Push(l[i]); e != api.OK {
			t.Fatalf("Push is %d with room for one", e)
		}
		check(t, q, l[i-2:i+1]...)
	}
	q = made(t, 3, l[0], l[1], api.Entry{Kind: api.EntSync})
	q.Skip()
	if e := q.Push(l[:3]...); e != api.ErrFull {
		t.Fatalf("Push of three is %d with room for two", e)
	}
	if e := q.Push(l[:2]...); e != api.OK {
		t.Fatalf("Push of two is %d with room for two", e)
	}
	check(t, q, api.Entry{Kind: api.EntSync}, l[0], l[1])
}

// P21.1, P21.2: the first one is popped, and then the next one, till there is nothing.
func TestPop(t *testing.T) {
	for _, n := range []int{1, 2, 3, 40, 4096} {
		l := some(n)
		q := made(t, 4096, l...)
		for i := range l {
			if n < 100 {
				check(t, q, l[i:]...)
			}
			head(t, "Head", l[i:])(q.Head())
			head(t, "Pop", l[i:])(q.Pop())
		}
		check(t, q)
		head(t, "Pop", nil)(q.Pop())
		check(t, q)
	}
}

// of answers entries of these kinds, each with its place as From.
func of(kinds ...int) []api.Entry {
	var l []api.Entry
	for i, kind := range kinds {
		l = append(l, api.Entry{Kind: kind, From: string(rune('a' + i)), Hide: i%2 == 1, Reply: []byte{byte(i)}})
	}
	return l
}

// P21.1: all ahead of the first EntSync go, or all, if there is none.
func TestSkip(t *testing.T) {
	const sync = api.EntSync
	for _, c := range []struct {
		l  []api.Entry
		at int
	}{
		{nil, 0},
		{of(sync), 0}, {of(sync, sync), 0}, {of(sync, api.EntParse), 0}, {of(sync, api.EntParse, sync), 0},
		{of(api.EntParse, sync), 1}, {of(api.EntParse, sync, sync), 1}, {of(api.EntParse, sync, api.EntBind, sync), 1},
		{of(api.EntParse, api.EntBind, api.EntExec, sync, api.EntParse), 3},
		{of(api.EntHello, api.EntParse, api.EntBind, api.EntStmt, api.EntPortal, api.EntExec, api.EntClose, api.EntQuery, api.EntSynth, sync), 9},
		{of(0, -1, 9-1+256, 8+1<<32, math.MinInt, math.MaxInt, 7, 9, sync), 8},
		{of(api.EntParse), 1}, {of(api.EntParse, api.EntQuery, api.EntSynth), 3},
		{of(api.EntHello, api.EntParse, api.EntBind, api.EntStmt, api.EntPortal, api.EntExec, api.EntClose, api.EntQuery, api.EntSynth), 9},
		{of(0), 1}, {of(-8, 7, 9, 16), 4},
	} {
		q := made(t, 10, c.l...)
		if got := q.Skip(); !same(got, c.l[:c.at]) {
			t.Errorf("Skip of %v is %v", c.l, got)
		}
		check(t, q, c.l[c.at:]...)
		if got := q.Skip(); len(got) != 0 {
			t.Errorf("Skip again of %v is %v", c.l, got)
		}
		check(t, q, c.l[c.at:]...)
	}
}

// P21.1: an EntSync that is hidden, or that has much else, ends what is skipped, too.
func TestSkipSync(t *testing.T) {
	for _, sync := range []api.Entry{
		{Kind: api.EntSync, Hide: true},
		{Kind: api.EntSync, From: "a", To: "b", Good: []api.TableOp{set("a", 1)}, Bad: []api.TableOp{gone("a", 0)}, Cache: []api.CacheOp{{Kind: 1, ID: 1}}, Reply: []byte("3")},
	} {
		q := made(t, 3, some(3)[1], sync, some(3)[2])
		if got := q.Skip(); !same(got, some(3)[1:2]) {
			t.Errorf("Skip is %v", got)
		}
		check(t, q, sync, some(3)[2])
	}
}

// P21.1: all are hidden, of no name becomes anything any more, and the ids of what was set are told in order; all else stays.
func TestHide(t *testing.T) {
	all := api.Entry{Kind: api.EntParse, From: "a", To: "b", Cache: []api.CacheOp{{Kind: api.CacheAdd, ID: 8}}, Reply: []byte("3")}
	with := func(good, bad []api.TableOp) api.Entry {
		e := all
		e.Good, e.Bad = good, bad
		return e
	}
	for _, c := range []struct {
		what string
		l    []api.Entry
		want []int
	}{
		{"nothing", nil, nil},
		{"no ops", []api.Entry{with(nil, nil), {}}, nil},
		{"a set", []api.Entry{with([]api.TableOp{set("a", 4)}, nil)}, []int{4}},
		{"a deletion", []api.Entry{with([]api.TableOp{gone("a", 4)}, nil)}, nil},
		{"what becomes when it fails", []api.Entry{with(nil, []api.TableOp{set("a", 4), gone("b", 5)})}, nil},
		{"both", []api.Entry{with([]api.TableOp{set("a", 4)}, []api.TableOp{set("a", 5)})}, []int{4}},
		{"several of one", []api.Entry{with([]api.TableOp{set("b", 4), gone("c", 6), set("a", 2)}, nil)}, []int{4, 2}},
		{"several of several", []api.Entry{with([]api.TableOp{set("b", 4)}, nil), with([]api.TableOp{gone("b", 9)}, nil), with([]api.TableOp{set("a", 2), set("a", 4)}, nil)}, []int{4, 2, 4}},
		{"hidden ones, too", []api.Entry{{Hide: true, Good: []api.TableOp{set("b", 4)}, Bad: []api.TableOp{gone("b", 0)}}, with([]api.TableOp{set("a", 2)}, nil)}, []int{4, 2}},
		{"behind an EntSync, too", []api.Entry{{Kind: api.EntSync, Good: []api.TableOp{set("b", 4)}}, {Kind: api.EntSynth, Good: []api.TableOp{set("a", 2)}}}, []int{4, 2}},
		{"ids of any kind", []api.Entry{with([]api.TableOp{set("a", 0), set("", -1), set("\x00", math.MaxInt), set("a", math.MinInt)}, nil)}, []int{0, -1, math.MaxInt, math.MinInt}},
	} {
		q := made(t, 5, c.l...)
		if got := q.Hide(); !slices.Equal(got, c.want) {
			t.Errorf("%s: Hide is %v, not %v", c.what, got, c.want)
		}
		var then []api.Entry
		for _, e := range c.l {
			e.Hide, e.Good, e.Bad = true, nil, nil
			then = append(then, e)
		}
		check(t, q, then...)
		if got := q.Hide(); len(got) != 0 {
			t.Errorf("%s: Hide again is %v", c.what, got)
		}
		check(t, q, then...)
	}
}

// P21.1: what is pushed behind a Hide is not hidden by it.
func TestHideThenPush(t *testing.T) {
	q := made(t, 2, api.Entry{Kind: 2})
	q.Hide()
	e := api.Entry{Kind: 3, Good: []api.TableOp{set("a", 7)}, Bad: []api.TableOp{gone("a", 0)}}
	q.Push(e)
	check(t, q, api.Entry{Kind: 2, Hide: true}, e)
}

// P21.1: each field alone makes entries unlike, and each part of it.
func TestSame(t *testing.T) {
	full := func() api.Entry {
		return api.Entry{
			Kind: api.EntParse, Hide: true, From: "a", To: "b", Good: []api.TableOp{set("a", 1), gone("b", 2)}, Bad: []api.TableOp{gone("c", 3), set("d", 4)},
			Cache: []api.CacheOp{{Kind: api.CacheAdd, ID: 5}, {Kind: api.CacheEvict, ID: 6}}, Reply: []byte("37"),
		}
	}
	if !Same(full(), full()) || !Same(api.Entry{}, api.Entry{}) || Same(full(), api.Entry{}) || Same(api.Entry{}, full()) {
		t.Error("Same of the whole, or of nothing, is wrong")
	}
	for what, change := range map[string]func(*api.Entry){
		"Kind":           func(e *api.Entry) { e.Kind = api.EntBind },
		"Kind, far away": func(e *api.Entry) { e.Kind += 1 << 32 },
		"Hide":           func(e *api.Entry) { e.Hide = false },
		"From":           func(e *api.Entry) { e.From = "b" },
		"From longer":    func(e *api.Entry) { e.From = "a\x00" },
		"To":             func(e *api.Entry) { e.To = "" },
		"both names":     func(e *api.Entry) { e.From, e.To = e.To, e.From },
		"Good's Set":     func(e *api.Entry) { e.Good[0].Set = false },
		"Good's Name":    func(e *api.Entry) { e.Good[1].Name = "B" },
		"Good's ID":      func(e *api.Entry) { e.Good[1].ID = 3 },
		"Good's order":   func(e *api.Entry) { slices.Reverse(e.Good) },
		"Good shorter":   func(e *api.Entry) { e.Good = e.Good[:1] },
		"Good longer":    func(e *api.Entry) { e.Good = append(e.Good, api.TableOp{}) },
		"no Good":        func(e *api.Entry) { e.Good = nil },
		"Bad's Set":      func(e *api.Entry) { e.Bad[1].Set = false },
		"Bad's Name":     func(e *api.Entry) { e.Bad[0].Name = "" },
		"Bad's ID":       func(e *api.Entry) { e.Bad[0].ID = -3 },
		"Bad shorter":    func(e *api.Entry) { e.Bad = e.Bad[:1] },
		"no Bad":         func(e *api.Entry) { e.Bad = nil },
		"Good and Bad":   func(e *api.Entry) { e.Good, e.Bad = e.Bad, e.Good },
		"Cache's Kind":   func(e *api.Entry) { e.Cache[0].Kind = api.CacheTouch },
		"Cache's ID":     func(e *api.Entry) { e.Cache[1].ID = 7 },
		"Cache's order":  func(e *api.Entry) { slices.Reverse(e.Cache) },
		"Cache shorter":  func(e *api.Entry) { e.Cache = e.Cache[:1] },
		"no Cache":       func(e *api.Entry) { e.Cache = nil },
		"Reply's byte":   func(e *api.Entry) { e.Reply[1] = 0 },
		"Reply shorter":  func(e *api.Entry) { e.Reply = e.Reply[:1] },
		"Reply longer":   func(e *api.Entry) { e.Reply = append(e.Reply, 0) },
		"no Reply":       func(e *api.Entry) { e.Reply = nil },
	} {
		e := full()
		change(&e)
		if Same(full(), e) || Same(e, full()) {
			t.Errorf("%s: Same is true", what)
		}
		if !Same(e, e) {
			t.Errorf("%s: Same of the same is false", what)
		}
	}
}

// P21.1: a list that is nil and an empty one are alike.
func TestSameEmpty(t *testing.T) {
	a := api.Entry{Kind: 2, Good: []api.TableOp{}, Bad: []api.TableOp{}, Cache: []api.CacheOp{}, Reply: []byte{}}
	if b := (api.Entry{Kind: 2}); !Same(a, b) || !Same(b, a) {
		t.Error("an empty list is not as none")
	}
}

// P21.1: what no call made takes nothing, and has nothing.
func TestNotMade(t *testing.T) {
	for _, q := range []*Queue{nil, {}, new(Queue)} {
		for _, n := range []int{0, 1, 5000} {
			if e := q.Push(some(n)...); e != api.ErrNil {
				t.Fatalf("Push of %d is %d", n, e)
			}
		}
		check(t, q)
		head(t, "Pop", nil)(q.Pop())
		if got := q.Skip(); len(got) != 0 {
			t.Errorf("Skip is %v", got)
		}
		if got := q.Hide(); len(got) != 0 {
			t.Errorf("Hide is %v", got)
		}
		check(t, q)
	}
}

// spoil changes all of e's lists, and what lies behind them.
func spoil(e *api.Entry) {
	for i := range e.Good {
		e.Good[i] = set("spoilt", 99)
	}
	for i := range e.Bad {
		e.Bad[i] = set("spoilt", 99)
	}
	for i := range e.Cache {
		e.Cache[i] = api.CacheOp{Kind: 99, ID: 99}
	}
	for i := range e.Reply {
		e.Reply[i] = 99
	}
	_ = append(e.Good, set("spoilt", 98))
	_ = append(e.Bad, set("spoilt", 98))
	_ = append(e.Cache, api.CacheOp{Kind: 98})
	_ = append(e.Reply, 98)
}

// spoilAll is spoil of each of l, of these, and of what lies behind them.
func spoilAll(l []api.Entry) {
	_ = append(l, api.Entry{Kind: 97, From: "spoilt"})
	for i := range l {
		spoil(&l[i])
		l[i] = api.Entry{Kind: 99}
	}
}

// P21.1: nothing that was pushed is kept, or changed, its spare room included.
func TestPushApart(t *testing.T) {
	l := some(9)
	q := made(t, 20, l[:6]...)
	q.Hide()
	q.Pop()
	q.Push(l[6])
	if !same(l, some(9)) {
		t.Fatalf("what was pushed is %v now", l)
	}
	q = made(t, 20, l[:6]...)
	spoilAll(l)
	check(t, q, some(6)...)
}

// P21.1: lists that entries share when they are pushed are each one's own within.
func TestPushShared(t *testing.T) {
	e := some(6)[5]
	q := made(t, 2, e, e)
	first, _ := q.Pop()
	spoil(&first)
	check(t, q, some(6)[5])
}

// P21.1: what is answered may be changed, what lies behind it included; what stands within stays.
func TestAnswersApart(t *testing.T) {
	const n = 24
	q := made(t, 30, some(n)...)
	first, _ := q.Head()
	spoil(&first)
	check(t, q, some(n)...)
	spoilAll(q.List())
	check(t, q, some(n)...)
	first, _ = q.Pop()
	spoil(&first)
	check(t, q, some(n)[1:]...)
	gone := q.Skip()
	if !same(gone, some(n)[1:7]) {
		t.Fatalf("Skip is %v", gone)
	}
	spoilAll(gone)
	check(t, q, some(n)[7:]...)
}

// P21.1: what was answered stays as it was, whatever comes of the queue.
func TestAnswersStay(t *testing.T) {
	q := made(t, 9, some(9)...)
	first, _ := q.Head()
	list := q.List()
	gone := q.Skip()
	q.Push(some(2)...)
	ids := q.Hide()
	q.Push(some(3)...)
	popped, _ := q.Pop()
	q.Hide()
	q.Push(some(1)...)
	if !Same(first, some(1)[0]) || !same(list, some(9)) || !same(gone, some(7)) {
		t.Errorf("what was answered is %v, %v, %v now", first, list, gone)
	}
	hidden := some(8)[7]
	hidden.Hide, hidden.Good, hidden.Bad = true, nil, nil
	if !Same(popped, hidden) {
		t.Errorf("what was popped is %v now", popped)
	}
	if !slices.Equal(ids, []int{107, 307, 101}) {
		t.Errorf("what Hide told is %v now", ids)
	}
}

// P21.1: what is skipped, and nothing of it, has no room behind it.
func TestSkipNoRoom(t *testing.T) {
	for _, l := range [][]api.Entry{of(api.EntSync, 2, 3), of(2, api.EntSync, 3), of(2, 3, api.EntSync)} {
		q := made(t, 20, l...)
		gone := q.Skip()
		n := len(gone)
		gone = append(gone, some(15)...)
		check(t, q, l[n:]...)
		q.Push(some(10)...)
		if !same(gone[n:], some(15)) {
			t.Errorf("what was laid behind the skipped is %v", gone[n:])
		}
		check(t, q, append(slices.Clone(l[n:]), some(10)...)...)
	}
}

// P21.1: two queues are not one.
func TestTwoQueues(t *testing.T) {
	a, b := made(t, 3, some(3)...), made(t, 4, some(3)...)
	a.Pop()
	a.Hide()
	b.Push(some(4)[3])
	check(t, b, some(4)...)
	b.Skip()
	if a.Len() != 2 || b.Len() != 0 {
		t.Errorf("there are %d and %d", a.Len(), b.Len())
	}
}

// plain is a queue, as the chapter tells it.
type plain struct {
	most int
	l    []api.Entry
}

// skip is Skip.
func (p *plain) skip() []api.Entry {
	var gone []api.Entry
	for len(p.l) > 0 && p.l[0].Kind != api.EntSync {
		gone, p.l = append(gone, p.l[0]), p.l[1:]
	}
	return gone
}

// hide is Hide.
func (p *plain) hide() []int {
	var ids []int
	var then []api.Entry
	for _, e := range p.l {
		for _, op := range e.Good {
			if op.Set {
				ids = append(ids, op.ID)
			}
		}
		then = append(then, api.Entry{Kind: e.Kind, Hide: true, From: e.From, To: e.To, Cache: e.Cache, Reply: e.Reply})
	}
	p.l = then
	return ids
}

// push is Push.
func (p *plain) push(l []api.Entry) api.Errno {
	if len(p.l)+len(l) > p.most {
		return api.ErrFull
	}
	p.l = append(slices.Clone(p.l), l...)
	return api.OK
}

// P21.1, P21.2: whatever is called in whatever order, what was pushed comes in its order, and never are there more than most.
func TestScripts(t *testing.T) {
	for seed := range uint32(80) {
		state := seed
		next := func(n int) int {
			state = state*1664525 + 1013904223
			return int(state>>16) % n
		}
		most := 1 + next(20)
		q, p := made(t, most), &plain{most: most}
		for range 300 {
			switch next(9) {
			case 0, 1, 2, 3:
				at := next(40)
				l := some(50)[at : at+next(6)]
				if e, want := q.Push(l...), p.push(l); e != want {
					t.Fatalf("Push of %d is %d, not %d", len(l), e, want)
				}
			case 4, 5, 6:
				head(t, "Pop", p.l)(q.Pop())
				p.l = p.l[min(1, len(p.l)):]
			case 7:
				if got, want := q.Skip(), p.skip(); !same(got, want) {
					t.Fatalf("Skip is %v, not %v", got, want)
				}
			default:
				if got, want := q.Hide(), p.hide(); !slices.Equal(got, want) {
					t.Fatalf("Hide is %v, not %v", got, want)
				}
			}
			if q.Len() > most {
				t.Fatalf("there are %d with room for %d", q.Len(), most)
			}
			check(t, q, p.l...)
		}
	}
}
