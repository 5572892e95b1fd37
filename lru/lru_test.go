package lru

import (
	"math"
	"slices"
	"testing"

	"remuda/api"
)

// some are numbers that may be there: none is held back.
func some() []int {
	return []int{1, 2, 3, 0, -1, math.MinInt, math.MaxInt, 1 << 31, 1 << 32, 4096}
}

// made answers a list with room for most, and these numbers.
func made(t *testing.T, most int, ids ...int) *LRU {
	t.Helper()
	l, e := New(most)
	if e != api.OK || l == nil {
		t.Fatalf("New(%d) is %v, %d", most, l, e)
	}
	for _, id := range ids {
		if e := l.Add(id); e != api.OK {
			t.Fatalf("Add(%d) is %d", id, e)
		}
	}
	return l
}

// check tells whether l has just these numbers, in this order, by all its calls.
func check(t *testing.T, l *LRU, want ...int) {
	t.Helper()
	if got := l.List(); !slices.Equal(got, want) {
		t.Fatalf("List is %.200v, not %.200v", got, want)
	}
	if l.Len() != len(want) {
		t.Fatalf("Len is %d of %d", l.Len(), len(want))
	}
	first, ok := 0, len(want) > 0
	if ok {
		first = want[0]
	}
	if got, gotOK := l.Oldest(); got != first || gotOK != ok {
		t.Fatalf("Oldest is %d, %v, not %d, %v", got, gotOK, first, ok)
	}
	for _, id := range append(some(), want...) {
		if l.Has(id) != slices.Contains(want, id) {
			t.Fatalf("Has(%d) is %v of %.200v", id, l.Has(id), want)
		}
	}
}

// checkNone tells whether id can be neither touched nor removed.
func checkNone(t *testing.T, l *LRU, id int) {
	t.Helper()
	if l.Touch(id) {
		t.Fatalf("Touch(%d) is true", id)
	}
	if l.Remove(id) {
		t.Fatalf("Remove(%d) is true", id)
	}
}

// P17.1: there is room for 1 to 4096 numbers, and none at first.
func TestNew(t *testing.T) {
	for _, most := range []int{1, 2, 3, 64, 4095, 4096} {
		l := made(t, most)
		check(t, l)
		for _, id := range some() {
			checkNone(t, l, id)
		}
		check(t, l)
	}
	for _, most := range []int{math.MinInt, math.MinInt32, -4096, -1, 0, 4097, 8192, 65535, 1 << 32, 1<<32 + 1, math.MaxInt} {
		if l, e := New(most); l != nil || e != api.ErrArg {
			t.Errorf("New(%d) is %v, %d", most, l, e)
		}
	}
}

// P17.1: what is added was used last.
func TestAdd(t *testing.T) {
	l := made(t, len(some()))
	for i, id := range some() {
		checkNone(t, l, id)
		if e := l.Add(id); e != api.OK {
			t.Fatalf("Add(%d) is %d", id, e)
		}
		check(t, l, some()[:i+1]...)
	}
}

// P17.1, P17.2: what is there is not added again, whether there is room or not, nor does it count as used.
func TestAddTwice(t *testing.T) {
	for _, most := range []int{10, 11} {
		l := made(t, most, some()...)
		for _, id := range some() {
			if e := l.Add(id); e != api.ErrTwice {
				t.Fatalf("Add(%d) is %d", id, e)
			}
			check(t, l, some()...)
		}
	}
}

// P17.1, P17.2: a full list takes no other number, but one in the place of one that is gone.
func TestFull(t *testing.T) {
	for _, most := range []int{1, 2, 3, 64, 4095, 4096} {
		l := made(t, most)
		var want []int
		for id := 10000; id < 10000+most; id++ {
			if e := l.Add(id); e != api.OK {
				t.Fatalf("Add(%d) is %d with room for %d", id, e, most)
			}
			want = append(want, id)
		}
		for _, id := range some() {
			if e := l.Add(id); e != api.ErrFull {
				t.Fatalf("Add(%d) is %d with room for %d", id, e, most)
			}
			checkNone(t, l, id)
		}
		check(t, l, want...)
		if !l.Touch(10000) || !l.Remove(10000) {
			t.Fatal("the first one is not there")
		}
		if e := l.Add(7); e != api.OK {
			t.Fatalf("Add is %d, though there is room", e)
		}
		check(t, l, append(want[1:], 7)...)
		if e := l.Add(10000); e != api.ErrFull {
			t.Fatalf("Add is %d, though it is full again", e)
		}
		check(t, l, append(want[1:], 7)...)
	}
}

// P17.1: what is touched was used last, wherever it stood; the others stay in order.
func TestTouch(t *testing.T) {
	for _, c := range []struct {
		id   int
		want []int
	}{
		{1, []int{2, 3, 4, 1}},
		{2, []int{1, 3, 4, 2}},
		{3, []int{1, 2, 4, 3}},
		{4, []int{1, 2, 3, 4}},
	} {
		l := made(t, 4, 1, 2, 3, 4)
		for range 2 {
			if !l.Touch(c.id) {
				t.Fatalf("Touch(%d) is false", c.id)
			}
			check(t, l, c.want...)
		}
		checkNone(t, l, 5)
		check(t, l, c.want...)
	}
	alone := made(t, 1, 7)
	if !alone.Touch(7) {
		t.Fatal("Touch is false")
	}
	check(t, alone, 7)
}

// P17.1: what is removed is gone, wherever it stood; the others stay in order.
func TestRemove(t *testing.T) {
	for _, c := range []struct {
		id   int
		want []int
	}{
		{1, []int{2, 3, 4}},
		{2, []int{1, 3, 4}},
		{4, []int{1, 2, 3}},
	} {
		l := made(t, 4, 1, 2, 3, 4)
		if !l.Remove(c.id) {
			t.Fatalf("Remove(%d) is false", c.id)
		}
		checkNone(t, l, c.id)
		check(t, l, c.want...)
		if e := l.Add(c.id); e != api.OK {
			t.Fatalf("Add(%d) is %d", c.id, e)
		}
		check(t, l, append(c.want, c.id)...)
	}
	alone := made(t, 1, 7)
	if !alone.Remove(7) {
		t.Fatal("Remove is false")
	}
	check(t, alone)
	checkNone(t, alone, 7)
}

// P17.1: what no call made takes nothing, and has nothing.
func TestNotMade(t *testing.T) {
	for _, l := range []*LRU{nil, {}, new(LRU)} {
		for _, id := range some() {
			if e := l.Add(id); e != api.ErrNil {
				t.Fatalf("Add(%d) is %d", id, e)
			}
			checkNone(t, l, id)
		}
		check(t, l)
	}
}

// P17.1: what is answered may be changed, its spare room included.
func TestListApart(t *testing.T) {
	l := made(t, 8, 1, 2, 3)
	got := l.List()
	_ = append(got, 9)
	clear(got)
	check(t, l, 1, 2, 3)
	old := l.List()
	l.Touch(1)
	l.Remove(2)
	l.Add(4)
	if !slices.Equal(old, []int{1, 2, 3}) {
		t.Fatalf("the List of before is %v", old)
	}
	check(t, l, 3, 1, 4)
}

// P17.1: two lists are not one.
func TestTwoLists(t *testing.T) {
	a, b := made(t, 1, 1), made(t, 2, 1, 2)
	a.Remove(1)
	a.Add(5)
	b.Touch(1)
	check(t, a, 5)
	check(t, b, 2, 1)
}

// plain is what there is, as the chapter tells it: when each number was used last.
type plain struct {
	most, now int
	used      map[int]int
}

func (p *plain) use(id int) {
	p.now++
	p.used[id] = p.now
}

func (p *plain) add(id int) api.Errno {
	if p.used[id] > 0 {
		return api.ErrTwice
	}
	if len(p.used) == p.most {
		return api.ErrFull
	}
	p.use(id)
	return api.OK
}

func (p *plain) touch(id int) bool {
	if p.used[id] == 0 {
		return false
	}
	p.use(id)
	return true
}

func (p *plain) remove(id int) bool {
	was := p.used[id] > 0
	delete(p.used, id)
	return was
}

func (p *plain) list() []int {
	var l []int
	for id := range p.used {
		l = append(l, id)
	}
	slices.SortFunc(l, func(a, b int) int { return p.used[a] - p.used[b] })
	return l
}

// P17.1, P17.2: whatever is called in whatever order, each number stands once, by when it was used last, and never are there more than most.
func TestScripts(t *testing.T) {
	for seed := range uint32(60) {
		state := seed
		next := func(n int) int {
			state = state*1664525 + 1013904223
			return int(state>>16) % n
		}
		most := 1 + int(seed)%12
		l, p := made(t, most), &plain{most: most, used: map[int]int{}}
		for range 400 {
			id := some()[next(len(some()))]
			switch next(5) {
			case 0, 1:
				if e, want := l.Add(id), p.add(id); e != want {
					t.Fatalf("Add(%d) is %d, not %d", id, e, want)
				}
			case 2, 3:
				if ok, want := l.Touch(id), p.touch(id); ok != want {
					t.Fatalf("Touch(%d) is %v, not %v", id, ok, want)
				}
			default:
				if ok, want := l.Remove(id), p.remove(id); ok != want {
					t.Fatalf("Remove(%d) is %v, not %v", id, ok, want)
				}
			}
			if l.Len() > most {
				t.Fatalf("there are %d with room for %d", l.Len(), most)
			}
			check(t, l, p.list()...)
		}
	}
}
