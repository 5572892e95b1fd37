package reg

import (
	"math"
	"slices"
	"strings"
	"testing"

	"remuda/api"
	"remuda/key"
)

// mostOID is the highest type.
const mostOID = 1<<32 - 1

// right are statements that have a key, no two the same.
func right() []api.Stmt {
	return []api.Stmt{
		{},
		{OIDs: []int{0}},
		{OIDs: []int{0, 0}},
		{Text: "a"},
		{Text: "b"},
		{Text: "A"},
		{Text: "a "},
		{Text: "a", OIDs: []int{23}},
		{Text: "b", OIDs: []int{23}},
		{Text: "a", OIDs: []int{23, 25}},
		{Text: "a", OIDs: []int{25, 23}},
		{Text: "a", OIDs: []int{mostOID, 0}},
		{Text: "a\x00\x00\x00\x17"},
		{Text: "\x00"},
		{Text: "\xff\xfe"},
		{Text: strings.Repeat("x", 1<<20)},
		{Text: "z", OIDs: slices.Repeat([]int{1}, api.MaxCount)},
	}
}

// keyless are statements that have no key.
func keyless() []api.Stmt {
	l := []api.Stmt{
		{Text: strings.Repeat("x", 1<<20+1)},
		{Text: "a", OIDs: make([]int, api.MaxCount+1)},
	}
	for _, oid := range []int{math.MinInt, -1, mostOID + 1, math.MaxInt} {
		l = append(l, api.Stmt{OIDs: []int{oid}}, api.Stmt{Text: "a", OIDs: []int{23, oid}})
	}
	return l
}

// all answers what All of r tells, as pairs of id and Refs.
func all(r *Registry) []api.Counted {
	var l []api.Counted
	for id, refs := range r.All() {
		l = append(l, api.Counted{ID: id, Refs: refs})
	}
	return l
}

// check tells whether r has just these statements, each referred to so often, by all its calls.
func check(t *testing.T, r *Registry, want []api.Counted) {
	t.Helper()
	if got := all(r); !slices.Equal(got, want) {
		t.Fatalf("All is %v, not %v", got, want)
	}
	if r.Len() != len(want) {
		t.Fatalf("Len is %d of %d", r.Len(), len(want))
	}
	for _, c := range want {
		if r.Refs(c.ID) != c.Refs {
			t.Fatalf("Refs(%d) is %d, not %d", c.ID, r.Refs(c.ID), c.Refs)
		}
		s, ok := r.Get(c.ID)
		if id, found := r.Find(s); !ok || !found || id != c.ID {
			t.Fatalf("Get(%d) tells %v, and Find of it is %d, %v", c.ID, ok, id, found)
		}
	}
}

// checkNone tells whether r has nothing by this id.
func checkNone(t *testing.T, r *Registry, id int) {
	t.Helper()
	if s, ok := r.Get(id); ok || s.Text != "" || len(s.OIDs) != 0 {
		t.Fatalf("Get(%d) is %.50q, %.50v, %v", id, s.Text, s.OIDs, ok)
	}
	if n := r.Refs(id); n != 0 {
		t.Fatalf("Refs(%d) is %d", id, n)
	}
	if r.Ref(id) {
		t.Fatalf("Ref(%d) is true", id)
	}
	if r.Drop(id) {
		t.Fatalf("Drop(%d) is true", id)
	}
}

// P14.1: a new registry has nothing.
func TestNew(t *testing.T) {
	r := New()
	if r == nil {
		t.Fatal("New is nil")
	}
	check(t, r, nil)
	for _, id := range []int{math.MinInt, -1, 0, 1, 2, math.MaxInt} {
		checkNone(t, r, id)
	}
	for _, s := range append(right(), keyless()...) {
		if id, ok := r.Find(s); id != 0 || ok {
			t.Errorf("Find(%.50q, %.50v) is %d, %v", s.Text, s.OIDs, id, ok)
		}
	}
	check(t, r, nil)
}

// P14.1: statements that are alike have one id, others ids of their own, from 1 on.
func TestPut(t *testing.T) {
	r := New()
	var want []api.Counted
	for i, s := range right() {
		if id := r.Put(s); id != i+1 {
			t.Fatalf("Put of the statement %d is %d", i, id)
		}
		want = append(want, api.Counted{ID: i + 1, Refs: 1})
		check(t, r, want)
	}
	for i, s := range right() {
		if id := r.Put(s); id != i+1 {
			t.Fatalf("the second Put of the statement %d is %d", i, id)
		}
		want[i].Refs = 2
		check(t, r, want)
		if id, ok := r.Find(s); id != i+1 || !ok {
			t.Errorf("Find of the statement %d is %d, %v", i, id, ok)
		}
		if got, ok := r.Get(i + 1); !ok || !key.Same(got, s) {
			t.Errorf("Get(%d) is %.50q, %.50v, %v", i+1, got.Text, got.OIDs, ok)
		}
	}
}

// P14.1: an empty list of types is the same as none.
func TestPutEmptyList(t *testing.T) {
	r := New()
	if a, b := r.Put(api.Stmt{Text: "a", OIDs: []int{}}), r.Put(api.Stmt{Text: "a"}); a != 1 || b != 1 {
		t.Errorf("%d, %d", a, b)
	}
	if id, ok := r.Find(api.Stmt{Text: "a", OIDs: []int{}}); id != 1 || !ok {
		t.Errorf("Find is %d, %v", id, ok)
	}
	check(t, r, []api.Counted{{ID: 1, Refs: 2}})
}

// P14.1: a statement without a key is not put, nor found, and takes no id.
func TestPutNone(t *testing.T) {
	r := New()
	for _, s := range keyless() {
		if id := r.Put(s); id != 0 {
			t.Fatalf("Put(%.50q, %.50v) is %d", s.Text, s.OIDs, id)
		}
		check(t, r, nil)
	}
	r.Put(api.Stmt{})
	if id := r.Put(api.Stmt{Text: "a"}); id != 2 {
		t.Fatalf("Put is %d behind statements without a key", id)
	}
	for _, s := range keyless() {
		if id := r.Put(s); id != 0 {
			t.Fatalf("Put(%.50q, %.50v) is %d", s.Text, s.OIDs, id)
		}
		if id, ok := r.Find(s); id != 0 || ok {
			t.Fatalf("Find(%.50q, %.50v) is %d, %v", s.Text, s.OIDs, id, ok)
		}
	}
	check(t, r, []api.Counted{{ID: 1, Refs: 1}, {ID: 2, Refs: 1}})
}

// P14.1: Ref and Drop count, and tell whether there is one; ids that no statement has change nothing.
func TestCount(t *testing.T) {
	r := New()
	r.Put(api.Stmt{Text: "a"})
	r.Put(api.Stmt{Text: "b"})
	for i := range 5 {
		if !r.Ref(2) || r.Refs(2) != i+2 || r.Refs(1) != 1 {
			t.Fatalf("Refs are %v", all(r))
		}
	}
	for _, id := range []int{math.MinInt, -2, -1, 0, 3, 4, math.MaxInt} {
		checkNone(t, r, id)
	}
	check(t, r, []api.Counted{{ID: 1, Refs: 1}, {ID: 2, Refs: 6}})
	for i := range 5 {
		if !r.Drop(2) || r.Refs(2) != 5-i || r.Refs(1) != 1 {
			t.Fatalf("Refs are %v", all(r))
		}
	}
	check(t, r, []api.Counted{{ID: 1, Refs: 1}, {ID: 2, Refs: 1}})
}

// P14.1: a statement that nobody refers to is gone, and its id is never given again.
func TestGone(t *testing.T) {
	r := New()
	a, b, c := api.Stmt{Text: "a"}, api.Stmt{Text: "b", OIDs: []int{23}}, api.Stmt{Text: "c"}
	r.Put(a)
	r.Put(b)
	r.Put(a)
	if !r.Drop(1) || r.Refs(1) != 1 {
		t.Fatal("Drop of one of two")
	}
	if !r.Drop(1) {
		t.Fatal("Drop of the last one")
	}
	checkNone(t, r, 1)
	if id, ok := r.Find(a); id != 0 || ok {
		t.Fatalf("Find is %d, %v", id, ok)
	}
	check(t, r, []api.Counted{{ID: 2, Refs: 1}})
	// The highest one goes: the next one is still one more than it was.
	if !r.Drop(2) {
		t.Fatal("Drop of 2")
	}
	check(t, r, nil)
	for i, s := range []api.Stmt{b, a, c} {
		if id := r.Put(s); id != 3+i {
			t.Fatalf("Put is %d, not %d", id, 3+i)
		}
	}
	checkNone(t, r, 1)
	checkNone(t, r, 2)
	check(t, r, []api.Counted{{ID: 3, Refs: 1}, {ID: 4, Refs: 1}, {ID: 5, Refs: 1}})
	if s, _ := r.Get(3); !key.Same(s, b) {
		t.Fatalf("Get(3) is %+v", s)
	}
}

// P14.1: All tells the same twice, what is there then, rising, and no more to who ends it early.
func TestAll(t *testing.T) {
	r := New()
	var want []api.Counted
	for i := range 300 {
		r.Put(api.Stmt{Text: "a", OIDs: []int{i}})
		for range i % 3 {
			r.Ref(i + 1)
		}
		want = append(want, api.Counted{ID: i + 1, Refs: 1 + i%3})
	}
	seq := r.All()
	for range 2 {
		i := 0
		for id, refs := range seq {
			if want[i] != (api.Counted{ID: id, Refs: refs}) {
				t.Fatalf("the place %d has %d, %d", i, id, refs)
			}
			i++
		}
		if i != len(want) {
			t.Fatalf("%d were told", i)
		}
	}
	for most := 1; most <= 300; most += 23 {
		times := 0
		for range seq {
			times++
			if times == most {
				break
			}
		}
		if times != most {
			t.Fatalf("%d were told, not %d", times, most)
		}
	}
	check(t, r, want)
}

// P14.1: of what no call made there is nothing, and nothing is put.
func TestNotMade(t *testing.T) {
	for _, r := range []*Registry{nil, {}, new(Registry)} {
		for _, s := range append(right(), keyless()...) {
			if id := r.Put(s); id != 0 {
				t.Fatalf("Put is %d", id)
			}
			if id, ok := r.Find(s); id != 0 || ok {
				t.Fatalf("Find is %d, %v", id, ok)
			}
		}
		for _, id := range []int{math.MinInt, -1, 0, 1, 2, math.MaxInt} {
			checkNone(t, r, id)
		}
		check(t, r, nil)
		if r.All() == nil {
			t.Fatal("All is nil")
		}
	}
}

// P14.1: two registries are not one.
func TestTwoRegistries(t *testing.T) {
	a, b := New(), New()
	a.Put(api.Stmt{Text: "a"})
	check(t, b, nil)
	if id := b.Put(api.Stmt{Text: "b"}); id != 1 {
		t.Fatalf("Put is %d", id)
	}
	if s, _ := a.Get(1); s.Text != "a" {
		t.Fatalf("Get is %+v", s)
	}
}

// P14.1: what is handed in stays, its spare room included, and is not kept; what is answered may be changed.
func TestApart(t *testing.T) {
	r := New()
	room := []int{23, 25, 7}
	s := api.Stmt{Text: "a", OIDs: room[:2]}
	r.Put(s)
	r.Put(s)
	r.Find(s)
	if !slices.Equal(room, []int{23, 25, 7}) {
		t.Fatalf("the list is %v", room)
	}
	clear(room)
	kept := api.Stmt{Text: "a", OIDs: []int{23, 25}}
	got, ok := r.Get(1)
	if !ok || !key.Same(got, kept) {
		t.Fatalf("Get is %+v", got)
	}
	_ = append(got.OIDs, 9)
	clear(got.OIDs)
	if again, ok := r.Get(1); !ok || !key.Same(again, kept) {
		t.Fatalf("Get is %+v later", again)
	}
	// A list that was changed may hide the key that the statement is found, and dropped, by.
	if id, ok := r.Find(kept); id != 1 || !ok {
		t.Fatalf("Find is %d, %v", id, ok)
	}
	if !r.Drop(1) || !r.Drop(1) || r.Len() != 0 {
		t.Fatalf("there are %v", all(r))
	}
	if id, ok := r.Find(kept); id != 0 || ok {
		t.Fatalf("Find is %d, %v of what is gone", id, ok)
	}
}

// plain is a registry as the chapter tells it: a list of what was new, in order.
type plain struct {
	stmts []api.Stmt
	refs  []int
}

func (p *plain) find(s api.Stmt) int {
	for i := range p.stmts {
		if p.refs[i] > 0 && key.Same(p.stmts[i], s) {
			return i + 1
		}
	}
	return 0
}

func (p *plain) put(s api.Stmt) int {
	id := p.find(s)
	if id == 0 {
		p.stmts = append(p.stmts, s)
		p.refs = append(p.refs, 0)
		id = len(p.stmts)
	}
	p.refs[id-1]++
	return id
}

func (p *plain) there(id int) bool {
	return id >= 1 && id <= len(p.refs) && p.refs[id-1] > 0
}

func (p *plain) change(id, by int) bool {
	if !p.there(id) {
		return false
	}
	p.refs[id-1] += by
	return true
}

func (p *plain) counted() []api.Counted {
	var l []api.Counted
	for i, n := range p.refs {
		if n > 0 {
			l = append(l, api.Counted{ID: i + 1, Refs: n})
		}
	}
	return l
}

// P14.1, P14.2: whatever is called in whatever order: no two ids have one statement, each has one that refers to it, and all is as counted.
func TestScripts(t *testing.T) {
	stmts := right()[:14]
	for seed := range uint32(40) {
		r, p, state := New(), &plain{}, seed
		next := func(n int) int {
			state = state*1664525 + 1013904223
			return int(state>>16) % n
		}
		for range 400 {
			s := stmts[next(len(stmts))]
			id := next(len(p.stmts)+3) - 1
			switch next(5) {
			case 0:
				if got, want := r.Put(s), p.put(s); got != want {
					t.Fatalf("Put is %d, not %d", got, want)
				}
			case 1:
				if got, want := r.Ref(id), p.change(id, 1); got != want {
					t.Fatalf("Ref(%d) is %v", id, got)
				}
			case 2, 3:
				if got, want := r.Drop(id), p.change(id, -1); got != want {
					t.Fatalf("Drop(%d) is %v", id, got)
				}
			case 4:
				want := p.find(s)
				if got, ok := r.Find(s); got != want || ok != (want > 0) {
					t.Fatalf("Find is %d, %v, not %d", got, ok, want)
				}
			}
			check(t, r, p.counted())
			checkApart(t, r)
		}
		for id := range len(p.stmts) {
			if s, ok := r.Get(id + 1); ok != p.there(id+1) || ok && !key.Same(s, p.stmts[id]) {
				t.Fatalf("Get(%d) is %+v, %v", id+1, s, ok)
			}
		}
	}
}

// checkApart tells whether each id of r has a statement of its own, and one at least that refers to it.
func checkApart(t *testing.T, r *Registry) {
	t.Helper()
	seen := map[string]int{}
	for id, refs := range r.All() {
		s, ok := r.Get(id)
		if !ok || refs < 1 {
			t.Fatalf("%d is told, with %d, %v", id, refs, ok)
		}
		if other := seen[key.Of(s)]; other != 0 {
			t.Fatalf("%d and %d have one statement", other, id)
		}
		seen[key.Of(s)] = id
	}
}
