package portal

import (
	"bytes"
	"math"
	"slices"
	"strconv"
	"strings"
	"testing"

	"remuda/api"
	"remuda/wire"
)

// some are names, rising by their bytes.
func some() []string {
	return []string{"", "\x00", "\x00\x00", " ", "A", "_p1", "a", "a\x00", "a ", "a1", "a10", "a2", "aa", "b", "\u00e9", strings.Repeat("\u00ff", 500), "\uffff", "\U0001f600", "\xff", "\xff\xff"}
}

// numbered answers n rows, each with cells of every sort, unlike each other.
func numbered(n int) [][]api.Cell {
	var l [][]api.Cell
	for i := range n {
		text := []byte(strconv.Itoa(i) + " ")
		l = append(l, []api.Cell{{Bytes: text[:len(text)-1]}, {Null: true}, {}, {Bytes: []byte{0, byte(i)}}}[:1+i%4])
	}
	return l
}

// full answers a portal of which each list has something; it has run, or not, and is over, or not.
func full(ran, over bool) Portal {
	return Portal{
		Stmt: api.Stmt{Text: "select 7", OIDs: []int{23, 25, 0}}, Params: []api.Cell{{Bytes: []byte("p")}, {Null: true}, {Bytes: []byte{}}, {Null: true, Bytes: []byte("x")}},
		Rows: numbered(6), Ran: ran, Over: over,
	}
}

func sameRows(a, b [][]api.Cell) bool { return slices.EqualFunc(a, b, wire.SameCells) }

// same tells whether two portals are alike, field by field.
func same(a, b Portal) bool {
	return a.Stmt.Text == b.Stmt.Text && slices.Equal(a.Stmt.OIDs, b.Stmt.OIDs) && wire.SameCells(a.Params, b.Params) &&
		sameRows(a.Rows, b.Rows) && a.Ran == b.Ran && a.Over == b.Over
}

// put checks that Put of p by that name goes well.
func put(t *testing.T, s *Set, name string, p Portal) {
	t.Helper()
	if e := s.Put(name, p); e != api.OK {
		t.Fatalf("Put(%.50q) is %d", name, e)
	}
	has(t, s, name, p)
}

// has checks that name has just this portal.
func has(t *testing.T, s *Set, name string, want Portal) {
	t.Helper()
	if got, ok := s.Get(name); !ok || !same(got, want) {
		t.Fatalf("Get(%.50q) is %v, %v, not %v", name, got, ok, want)
	}
}

// hasNone checks that there is no such portal, by all calls, and that none of them makes one.
func hasNone(t *testing.T, s *Set, name string) {
	t.Helper()
	for range 2 {
		if got, ok := s.Get(name); ok || !same(got, Portal{}) {
			t.Fatalf("Get(%.50q) is %v, %v", name, got, ok)
		}
		if s.Ran(name, numbered(2)) {
			t.Fatalf("Ran(%.50q) is true", name)
		}
		for _, most := range []int{-1, 0, 1, 5} {
			fetch(t, s, name, most, nil, false)
		}
		if s.Delete(name) {
			t.Fatalf("Delete(%.50q) is true", name)
		}
	}
}

// fetch checks what Fetch tells.
func fetch(t *testing.T, s *Set, name string, most int, want [][]api.Cell, more bool) {
	t.Helper()
	if got, left := s.Fetch(name, most); !sameRows(got, want) || left != more {
		t.Fatalf("Fetch(%.50q, %d) is %v, %v, not %v, %v", name, most, got, left, want, more)
	}
}

// ran checks what Ran tells.
func ran(t *testing.T, s *Set, name string, rows [][]api.Cell, want bool) {
	t.Helper()
	if got := s.Ran(name, rows); got != want {
		t.Fatalf("Ran(%.50q) is %v", name, got)
	}
}

// names checks that these are all that there are.
func names(t *testing.T, s *Set, want ...string) {
	t.Helper()
	if got := s.Names(); !slices.Equal(got, want) {
		t.Fatalf("Names are %.300q, not %.300q", got, want)
	}
}

// with answers a set with one portal that has run, and has n rows.
func with(t *testing.T, name string, n int) *Set {
	t.Helper()
	s := New()
	put(t, s, name, Portal{Stmt: api.Stmt{Text: "x"}})
	ran(t, s, name, numbered(n), true)
	return s
}

// P28.1: there is none at first.
func TestNew(t *testing.T) {
	s := New()
	names(t, s)
	for _, name := range some() {
		hasNone(t, s, name)
	}
	s.Clear()
	names(t, s)
}

// P28.1: what is put is name's, all of its fields, and each name has its own.
func TestPut(t *testing.T) {
	s := New()
	var want []string
	for i, name := range some() {
		p := full(i%2 == 0, i%3 == 0)
		p.Stmt.Text = name
		hasNone(t, s, name)
		put(t, s, name, p)
		want = append(want, name)
		names(t, s, want...)
	}
	for i, name := range some() {
		p := full(i%2 == 0, i%3 == 0)
		p.Stmt.Text = name
		has(t, s, name, p)
	}
	s = New()
	put(t, s, "a", Portal{})
	put(t, s, "b", Portal{Stmt: api.Stmt{OIDs: []int{}}, Params: []api.Cell{}, Rows: [][]api.Cell{{}, nil}})
}

// P28.1: a name is not given twice, and the portal that it has stays; that of "" takes the place of the one that was.
func TestPutTwice(t *testing.T) {
	for _, name := range some() {
		s := New()
		first, second := full(true, false), Portal{Stmt: api.Stmt{Text: "second"}}
		put(t, s, name, first)
		e := s.Put(name, second)
		switch {
		case name == "" && e == api.OK:
			has(t, s, name, second)
		case name != "" && e == api.ErrTwice:
			has(t, s, name, first)
		default:
			t.Fatalf("Put(%.50q) twice is %d", name, e)
		}
		names(t, s, name)
		if !s.Delete(name) {
			t.Fatalf("Delete(%.50q) is false", name)
		}
		put(t, s, name, second)
	}
}

// P28.1: what had run, and was fetched, of "" is nothing to the one in its place.
func TestPutPlace(t *testing.T) {
	s := with(t, "", 3)
	fetch(t, s, "", 0, numbered(3), false)
	put(t, s, "", Portal{})
	fetch(t, s, "", 0, nil, false)
	ran(t, s, "", numbered(2), true)
	fetch(t, s, "", 1, numbered(2)[:1], true)
	put(t, s, "", Portal{})
	has(t, s, "", Portal{})
}

// P28.1: it runs once, and has these rows then, whatever it had ahead; all else of it stays.
func TestRan(t *testing.T) {
	for _, rows := range [][][]api.Cell{nil, {}, {{}}, {nil, {}}, numbered(1), numbered(40)} {
		for _, over := range []bool{false, true} {
			s := New()
			put(t, s, "a", full(false, over))
			put(t, s, "b", full(false, over))
			ran(t, s, "a", rows, true)
			want := full(true, over)
			want.Rows = rows
			has(t, s, "a", want)
			for _, again := range [][][]api.Cell{nil, numbered(2)} {
				ran(t, s, "a", again, false)
				has(t, s, "a", want)
			}
			has(t, s, "b", full(false, over))
			ran(t, s, "c", rows, false)
			names(t, s, "a", "b")
		}
	}
}

// P28.1: one that has run, or is over, when it is put is so.
func TestRanPut(t *testing.T) {
	s := New()
	put(t, s, "ran", full(true, false))
	ran(t, s, "ran", nil, false)
	fetch(t, s, "ran", 4, numbered(6)[:4], true)
	fetch(t, s, "ran", 4, numbered(6)[4:], false)
	put(t, s, "over", full(true, true))
	ran(t, s, "over", nil, false)
	fetch(t, s, "over", 0, nil, false)
	has(t, s, "over", full(true, true))
	put(t, s, "not", full(false, false))
	fetch(t, s, "not", 0, nil, false)
	has(t, s, "not", full(false, false))
	put(t, s, "over, but not", full(false, true))
	ran(t, s, "over, but not", numbered(2), true)
	fetch(t, s, "over, but not", 0, nil, false)
}

// P28.1: the chapter's example.
func TestFetchExample(t *testing.T) {
	s := with(t, "a", 3)
	fetch(t, s, "a", 2, numbered(3)[:2], true)
	fetch(t, s, "a", 2, numbered(3)[2:], false)
}

// P28.1: Fetch tells the first most, or all of a most below 1; it is over just when none are left.
func TestFetchMost(t *testing.T) {
	for _, n := range []int{0, 1, 2, 3, 99, 1000} {
		for _, most := range []int{math.MinInt, -1, 0, 1, 2, 3, 4, 98, 99, 100, 999, 1000, 1001, math.MaxInt} {
			s := with(t, "a", n)
			told := n
			if most >= 1 && most < n {
				told = most
			}
			fetch(t, s, "a", most, numbered(n)[:told], told < n)
			has(t, s, "a", Portal{Stmt: api.Stmt{Text: "x"}, Rows: numbered(n)[told:], Ran: true, Over: told == n})
		}
	}
}

// P28.1, P28.2: each row is told once, in its order, however many at a time; then it is over, and nothing is told any more.
func TestFetchOnce(t *testing.T) {
	for _, n := range []int{0, 1, 2, 7, 30} {
		for most := 1; most <= n+2; most++ {
			s := with(t, "a", n)
			for at := 0; ; at += most {
				end := min(at+most, n)
				fetch(t, s, "a", most, numbered(n)[at:end], end < n)
				if end == n {
					break
				}
			}
			for _, again := range []int{-1, 0, 1, most} {
				fetch(t, s, "a", again, nil, false)
			}
			ran(t, s, "a", numbered(3), false)
			fetch(t, s, "a", 0, nil, false)
			has(t, s, "a", Portal{Stmt: api.Stmt{Text: "x"}, Ran: true, Over: true})
		}
	}
}

// P28.1: what has not run has nothing to tell, and is not over by it.
func TestFetchAhead(t *testing.T) {
	s := New()
	put(t, s, "a", Portal{})
	for _, most := range []int{-1, 0, 1, 9} {
		fetch(t, s, "a", most, nil, false)
	}
	has(t, s, "a", Portal{})
	ran(t, s, "a", numbered(2), true)
	fetch(t, s, "a", 0, numbered(2), false)
}

// P28.2: portals tell their rows apart from each other.
func TestFetchTwo(t *testing.T) {
	s := with(t, "a", 4)
	put(t, s, "", Portal{})
	rows := numbered(9)[4:]
	ran(t, s, "", rows, true)
	fetch(t, s, "a", 3, numbered(4)[:3], true)
	fetch(t, s, "", 1, rows[:1], true)
	fetch(t, s, "a", 3, numbered(4)[3:], false)
	fetch(t, s, "", 2, rows[1:3], true)
	fetch(t, s, "a", 1, nil, false)
	fetch(t, s, "", 0, rows[3:], false)
}

// P28.1: Delete tells whether there was one; it is gone, the others stay.
func TestDelete(t *testing.T) {
	s := New()
	left := some()
	for _, name := range left {
		put(t, s, name, full(true, false))
	}
	for i := 0; len(left) > 0; i += 7 {
		at := i % len(left)
		if !s.Delete(left[at]) {
			t.Fatalf("Delete(%.50q) is false", left[at])
		}
		hasNone(t, s, left[at])
		left = slices.Delete(left, at, at+1)
		names(t, s, left...)
		for _, name := range left {
			has(t, s, name, full(true, false))
		}
	}
	put(t, s, "a", Portal{})
	names(t, s, "a")
}

// P28.1: Clear has all be gone, and each name be free.
func TestClear(t *testing.T) {
	s := New()
	for range 3 {
		for i, name := range some() {
			put(t, s, name, full(i%2 == 0, false))
		}
		s.Clear()
		names(t, s)
		for _, name := range some() {
			hasNone(t, s, name)
		}
	}
}

// P28.1: names rise, whatever the order in which they came, and may be changed by whoever gets them.
func TestNames(t *testing.T) {
	list := some()
	slices.Reverse(list)
	for range list {
		list = append(list[1:], list[0])
		s := New()
		for _, name := range list {
			put(t, s, name, Portal{})
		}
		got := s.Names()
		if !slices.Equal(got, some()) {
			t.Fatalf("Names are %.300q", got)
		}
		clear(got)
		names(t, s, some()...)
	}
	s := New()
	var want []string
	for i := range 3000 {
		name := strconv.Itoa(1000 + (i*7)%3000)
		want = append(want, name)
		put(t, s, name, Portal{})
	}
	slices.Sort(want)
	names(t, s, want...)
}

// P28.1: what no call made takes nothing, and has nothing.
func TestNotMade(t *testing.T) {
	for _, s := range []*Set{nil, {}, new(Set)} {
		for _, name := range some() {
			for range 2 {
				if e := s.Put(name, full(true, false)); e != api.ErrNil {
					t.Fatalf("Put(%.50q) is %d", name, e)
				}
			}
			hasNone(t, s, name)
		}
		s.Clear()
		names(t, s)
	}
}

// spoilCells changes all cells of l, and what lies behind them.
func spoilCells(l []api.Cell) {
	_ = append(l, api.Cell{Bytes: []byte("spoilt")})
	for i := range l {
		_ = append(l[i].Bytes, 98)
		for k := range l[i].Bytes {
			l[i].Bytes[k] = 99
		}
		l[i] = api.Cell{Null: true, Bytes: []byte("spoilt")}
	}
}

// spoilRows is spoilCells of each row, of these, and of what lies behind them.
func spoilRows(l [][]api.Cell) {
	_ = append(l, []api.Cell{{Bytes: []byte("spoilt")}}, nil)
	for i := range l {
		spoilCells(l[i])
		l[i] = nil
	}
}

// spoil changes all lists of p, and what lies behind them.
func spoil(p Portal) {
	_ = append(p.Stmt.OIDs, 98)
	for i := range p.Stmt.OIDs {
		p.Stmt.OIDs[i] = 99
	}
	spoilCells(p.Params)
	spoilRows(p.Rows)
}

// P28.1: nothing that is handed in is kept, whoever changes it later.
func TestPutApart(t *testing.T) {
	s := New()
	p := full(true, false)
	put(t, s, "a", p)
	spoil(p)
	has(t, s, "a", full(true, false))
	put(t, s, "b", Portal{})
	rows := numbered(9)
	ran(t, s, "b", rows, true)
	spoilRows(rows)
	has(t, s, "b", Portal{Ran: true, Rows: numbered(9)})
	fetch(t, s, "b", 0, numbered(9), false)
}

// P28.1: nothing that is handed in is changed, its spare room included.
func TestPutStays(t *testing.T) {
	s := New()
	p := full(true, false)
	whole, rows := full(true, false), numbered(9)
	p.Stmt.OIDs, p.Params, p.Rows = p.Stmt.OIDs[:1:3], p.Params[:2:4], p.Rows[:3:6]
	put(t, s, "", p)
	fetch(t, s, "", 2, numbered(2), true)
	spoilCells(mustGet(t, s, "").Params)
	fetch(t, s, "", 0, numbered(3)[2:], false)
	put(t, s, "b", Portal{})
	ran(t, s, "b", rows[:5:9], true)
	fetch(t, s, "b", 2, numbered(2), true)
	fetch(t, s, "b", 0, numbered(5)[2:], false)
	s.Clear()
	p.Stmt.OIDs, p.Params, p.Rows = p.Stmt.OIDs[:3], p.Params[:4], p.Rows[:6]
	if !same(p, whole) {
		t.Errorf("what was put is %v now", p)
	}
	if !sameRows(rows, numbered(9)) {
		t.Errorf("the rows are %v now", rows)
	}
}

func mustGet(t *testing.T, s *Set, name string) Portal {
	t.Helper()
	p, ok := s.Get(name)
	if !ok {
		t.Fatalf("Get(%.50q) is false", name)
	}
	return p
}

// P28.1: what is answered may be changed, what lies behind it included; what stands within stays.
func TestAnswersApart(t *testing.T) {
	s := New()
	put(t, s, "a", full(true, false))
	spoil(mustGet(t, s, "a"))
	has(t, s, "a", full(true, false))
	for at := 0; at < 6; at += 2 {
		got, _ := s.Fetch("a", 2)
		if !sameRows(got, numbered(6)[at:at+2]) {
			t.Fatalf("rows from %d on are %v", at, got)
		}
		spoilRows(got)
		want := full(true, at == 4)
		want.Rows = want.Rows[at+2:]
		has(t, s, "a", want)
	}
}

// P28.1: what was answered stays as it was, whatever comes of the portal.
func TestAnswersStay(t *testing.T) {
	s := New()
	put(t, s, "a", full(true, false))
	before := mustGet(t, s, "a")
	first, _ := s.Fetch("a", 2)
	between := mustGet(t, s, "a")
	second, _ := s.Fetch("a", 3)
	third, _ := s.Fetch("a", 0)
	s.Delete("a")
	put(t, s, "a", Portal{})
	ran(t, s, "a", numbered(3), true)
	s.Clear()
	if !same(before, full(true, false)) || !sameRows(between.Rows, numbered(6)[2:]) {
		t.Errorf("what Get told is %v, %v now", before, between)
	}
	if !sameRows(first, numbered(2)) || !sameRows(second, numbered(5)[2:]) || !sameRows(third, numbered(6)[5:]) {
		t.Errorf("what was fetched is %v, %v, %v now", first, second, third)
	}
}

// P28.1: cells that rows share when they are handed in are each one's own within.
func TestRanShared(t *testing.T) {
	row := []api.Cell{{Bytes: []byte("ab")}}
	s := New()
	put(t, s, "a", Portal{Params: row, Rows: [][]api.Cell{row, row}, Ran: true})
	first, _ := s.Fetch("a", 1)
	spoilRows(first)
	has(t, s, "a", Portal{Params: row, Rows: [][]api.Cell{row}, Ran: true})
	if !bytes.Equal(row[0].Bytes, []byte("ab")) {
		t.Errorf("the row is %v now", row)
	}
}

// P28.1: two sets are not one.
func TestTwoSets(t *testing.T) {
	a, b := with(t, "a", 3), with(t, "a", 2)
	fetch(t, a, "a", 1, numbered(3)[:1], true)
	put(t, b, "b", Portal{})
	a.Clear()
	names(t, b, "a", "b")
	fetch(t, b, "a", 0, numbered(2), false)
	names(t, a)
}

// plain is a set as the chapter tells it.
type plain map[string]Portal

func (l plain) names() []string {
	var out []string
	for _, name := range some() {
		if _, ok := l[name]; ok {
			out = append(out, name)
		}
	}
	return out
}

func (l plain) put(name string, p Portal) api.Errno {
	if _, ok := l[name]; ok && name != "" {
		return api.ErrTwice
	}
	l[name] = p
	return api.OK
}

func (l plain) ran(name string, rows [][]api.Cell) bool {
	p, ok := l[name]
	if !ok || p.Ran {
		return false
	}
	p.Ran, p.Rows = true, rows
	l[name] = p
	return true
}

func (l plain) fetch(name string, most int) ([][]api.Cell, bool) {
	p := l[name]
	if !p.Ran || p.Over {
		return nil, false
	}
	var out [][]api.Cell
	for len(p.Rows) > 0 && (most < 1 || len(out) < most) {
		out, p.Rows = append(out, p.Rows[0]), p.Rows[1:]
	}
	p.Over = len(p.Rows) == 0
	l[name] = p
	return out, !p.Over
}

// P28.1, P28.2: whatever is called in whatever order, portals are as the chapter tells them.
func TestScripts(t *testing.T) {
	for seed := range uint32(60) {
		state := seed
		next := func(n int) int {
			state = state*1664525 + 1013904223
			return int(state>>16) % n
		}
		s, l := New(), plain{}
		few := some()[:1+next(len(some()))]
		for range 400 {
			name := few[next(len(few))]
			switch next(16) {
			case 0, 1, 2, 3:
				p := full(next(3) == 0, next(5) == 0)
				p.Stmt.Text, p.Rows = name, p.Rows[:next(7)]
				if e, want := s.Put(name, p), l.put(name, p); e != want {
					t.Fatalf("Put(%.50q) is %d, not %d", name, e, want)
				}
			case 4, 5, 6, 7:
				rows := numbered(next(12))
				ran(t, s, name, rows, l.ran(name, rows))
			case 8, 9, 10, 11, 12:
				most := next(6) - 1
				want, more := l.fetch(name, most)
				fetch(t, s, name, most, want, more)
			case 13, 14:
				_, ok := l[name]
				delete(l, name)
				if s.Delete(name) != ok {
					t.Fatalf("Delete(%.50q) is not %v", name, ok)
				}
			default:
				if next(8) == 0 {
					clear(l)
					s.Clear()
				}
			}
			names(t, s, l.names()...)
			for name, p := range l {
				has(t, s, name, p)
			}
		}
	}
}
