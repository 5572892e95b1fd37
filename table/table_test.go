package table

import (
	"math"
	"slices"
	"strconv"
	"strings"
	"testing"

	"remuda/api"
)

// some are names, rising by their bytes.
func some() []string {
	return []string{"", "\x00", "\x00\x00", " ", "A", "B", "_none", "_p1", "a", "a\x00", "a ", "a1", "a10", "a2", "aa", "b", "\u00e9", strings.Repeat("\u00ff", 500), "\uffff", "\U0001f600", "\xff", "\xff\xff"}
}

// made answers a table with room for most.
func made(t *testing.T, most int) *Table {
	t.Helper()
	x, e := New(most)
	if e != api.OK || x == nil {
		t.Fatalf("New(%d) is %v, %d", most, x, e)
	}
	return x
}

// set gives name this id, and tells whether it had old ahead.
func set(t *testing.T, x *Table, name string, id, old int) {
	t.Helper()
	if got, e := x.Set(name, id); got != old || e != api.OK {
		t.Fatalf("Set(%.50q, %d) is %d, %d, not %d", name, id, got, e, old)
	}
}

// all answers what All of x tells.
func all(x *Table) []api.Named {
	var l []api.Named
	for name, id := range x.All() {
		l = append(l, api.Named{Name: name, ID: id})
	}
	return l
}

// check tells whether x has just these names, by all its calls.
func check(t *testing.T, x *Table, want []api.Named) {
	t.Helper()
	if got := all(x); !slices.Equal(got, want) {
		t.Fatalf("All is %.200v, not %.200v", got, want)
	}
	if x.Len() != len(want) {
		t.Fatalf("Len is %d of %d", x.Len(), len(want))
	}
	for _, n := range want {
		if id, ok := x.Get(n.Name); id != n.ID || !ok {
			t.Fatalf("Get(%.50q) is %d, %v, not %d", n.Name, id, ok, n.ID)
		}
	}
}

// checkNone tells whether x has no such name.
func checkNone(t *testing.T, x *Table, name string) {
	t.Helper()
	if id, ok := x.Get(name); id != 0 || ok {
		t.Fatalf("Get(%.50q) is %d, %v", name, id, ok)
	}
	if id, ok := x.Delete(name); id != 0 || ok {
		t.Fatalf("Delete(%.50q) is %d, %v", name, id, ok)
	}
}

// P15.1: a table has room for 1 to 4096 names, and none at first.
func TestNew(t *testing.T) {
	for _, most := range []int{1, 2, 3, 64, 4095, 4096} {
		x := made(t, most)
		check(t, x, nil)
		for _, name := range some() {
			checkNone(t, x, name)
		}
	}
	for _, most := range []int{math.MinInt, math.MinInt32, -4096, -1, 0, 4097, 8192, 65535, 1 << 32, 1<<32 + 1, math.MaxInt} {
		if x, e := New(most); x != nil || e != api.ErrArg {
			t.Errorf("New(%d) is %v, %d", most, x, e)
		}
	}
}

// P15.1: Set tells what a name had ahead, Get what it has, All all of them by their bytes.
func TestSet(t *testing.T) {
	x := made(t, 100)
	var want []api.Named
	for i, name := range some() {
		checkNone(t, x, name)
		set(t, x, name, i+1, 0)
		want = append(want, api.Named{Name: name, ID: i + 1})
		check(t, x, want)
	}
	for i, name := range some() {
		set(t, x, name, 1000-i, i+1)
		want[i].ID = 1000 - i
		check(t, x, want)
	}
}

// P15.1: names rise, whatever the order in which they came.
func TestRising(t *testing.T) {
	names := some()
	slices.Reverse(names)
	for range names {
		names = append(names[1:], names[0])
		x := made(t, len(names))
		for i, name := range names {
			set(t, x, name, i+1, 0)
		}
		var got []string
		for name := range x.All() {
			got = append(got, name)
		}
		if !slices.Equal(got, some()) {
			t.Fatalf("All is %.200q", got)
		}
	}
}

// P15.1: a name may have any number, and more than one name the same.
func TestIDs(t *testing.T) {
	x := made(t, 3)
	old := 0
	for _, id := range []int{1, 1, -1, math.MinInt, 0, 7, math.MaxInt, 0, 0, 1 << 31} {
		set(t, x, "a", id, old)
		check(t, x, []api.Named{{Name: "a", ID: id}})
		old = id
	}
	set(t, x, "b", 1<<31, 0)
	set(t, x, "", 0, 0)
	check(t, x, []api.Named{{Name: "", ID: 0}, {Name: "a", ID: 1 << 31}, {Name: "b", ID: 1 << 31}})
	if id, ok := x.Delete(""); id != 0 || !ok {
		t.Fatalf("Delete is %d, %v", id, ok)
	}
	checkNone(t, x, "")
}

// P15.1: Delete tells what the name had; it is gone, the others stay.
func TestDelete(t *testing.T) {
	x := made(t, 100)
	var want []api.Named
	for i, name := range some() {
		set(t, x, name, i+1, 0)
		want = append(want, api.Named{Name: name, ID: i + 1})
	}
	for i := 0; len(want) > 0; i += 7 {
		at := i % len(want)
		n := want[at]
		if id, ok := x.Delete(n.Name); id != n.ID || !ok {
			t.Fatalf("Delete(%.50q) is %d, %v, not %d", n.Name, id, ok, n.ID)
		}
		checkNone(t, x, n.Name)
		want = slices.Delete(want, at, at+1)
		check(t, x, want)
	}
	set(t, x, "a", 5, 0)
	check(t, x, []api.Named{{Name: "a", ID: 5}})
}

// P15.1: a full table takes no new name, but new numbers, and a name in the place of one that is gone.
func TestFull(t *testing.T) {
	for _, most := range []int{1, 2, 3, 64, 4095, 4096} {
		x := made(t, most)
		var want []api.Named
		for i := range most {
			name := strconv.Itoa(10000 + i)
			set(t, x, name, i+1, 0)
			want = append(want, api.Named{Name: name, ID: i + 1})
		}
		for _, name := range some() {
			if old, e := x.Set(name, 9); old != 0 || e != api.ErrFull {
				t.Fatalf("Set(%.50q, 9) is %d, %d in a full table", name, old, e)
			}
			checkNone(t, x, name)
		}
		check(t, x, want)
		set(t, x, "10000", 77, 1)
		want[0].ID = 77
		check(t, x, want)
		x.Delete("10000")
		set(t, x, "z", 5, 0)
		want = append(want[1:], api.Named{Name: "z", ID: 5})
		check(t, x, want)
		if old, e := x.Set("10000", 1); old != 0 || e != api.ErrFull {
			t.Fatalf("Set is %d, %d in a table that is full again", old, e)
		}
		check(t, x, want)
	}
}

// P15.1: All tells the same twice, and no more to who ends it early.
func TestAll(t *testing.T) {
	x := made(t, 300)
	var want []api.Named
	for i := range 300 {
		name := strconv.Itoa(1000 + i)
		set(t, x, name, 300-i, 0)
		want = append(want, api.Named{Name: name, ID: 300 - i})
	}
	seq := x.All()
	for range 2 {
		var got []api.Named
		for name, id := range seq {
			got = append(got, api.Named{Name: name, ID: id})
		}
		if !slices.Equal(got, want) {
			t.Fatalf("All is %.200v", got)
		}
	}
	for most := 1; most <= 300; most += 23 {
		times := 0
		seq(func(name string, id int) bool {
			if want[times] != (api.Named{Name: name, ID: id}) {
				t.Fatalf("the place %d has %q, %d", times, name, id)
			}
			times++
			return times < most
		})
		if times != most {
			t.Fatalf("%d were told, not %d", times, most)
		}
	}
	check(t, x, want)
}

// P15.1: what no call made takes nothing, and has nothing.
func TestNotMade(t *testing.T) {
	for _, x := range []*Table{nil, {}, new(Table)} {
		for _, name := range some() {
			for _, id := range []int{math.MinInt, 0, 1, math.MaxInt} {
				if old, e := x.Set(name, id); old != 0 || e != api.ErrNil {
					t.Fatalf("Set(%.50q, %d) is %d, %d", name, id, old, e)
				}
			}
			checkNone(t, x, name)
		}
		check(t, x, nil)
		if x.All() == nil {
			t.Fatal("All is nil")
		}
	}
}

// P15.1: two tables are not one.
func TestTwoTables(t *testing.T) {
	a, b := made(t, 1), made(t, 2)
	set(t, a, "a", 1, 0)
	check(t, b, nil)
	set(t, b, "a", 2, 0)
	set(t, b, "b", 3, 0)
	check(t, a, []api.Named{{Name: "a", ID: 1}})
	check(t, b, []api.Named{{Name: "a", ID: 2}, {Name: "b", ID: 3}})
}

// plain is a table as the chapter tells it: a list of names, rising.
type plain struct {
	most int
	l    []api.Named
}

// place answers where name stands, or would stand, and whether it is there.
func (p *plain) place(name string) (int, bool) {
	for i, n := range p.l {
		if n.Name >= name {
			return i, n.Name == name
		}
	}
	return len(p.l), false
}

func (p *plain) set(name string, id int) (int, api.Errno) {
	at, ok := p.place(name)
	if ok {
		old := p.l[at].ID
		p.l[at].ID = id
		return old, api.OK
	}
	if len(p.l) == p.most {
		return 0, api.ErrFull
	}
	p.l = slices.Insert(p.l, at, api.Named{Name: name, ID: id})
	return 0, api.OK
}

func (p *plain) get(name string) (int, bool) {
	at, ok := p.place(name)
	if !ok {
		return 0, false
	}
	return p.l[at].ID, true
}

func (p *plain) remove(name string) (int, bool) {
	at, ok := p.place(name)
	if !ok {
		return 0, false
	}
	id := p.l[at].ID
	p.l = slices.Delete(p.l, at, at+1)
	return id, true
}

// P15.1, P15.2: whatever is called in whatever order, a name has what it was set to last, as long as it is not deleted.
func TestScripts(t *testing.T) {
	names := some()
	for seed := range uint32(60) {
		state := seed
		next := func(n int) int {
			state = state*1664525 + 1013904223
			return int(state>>16) % n
		}
		most := 1 + int(seed)%(len(names)+2)
		x, p := made(t, most), &plain{most: most}
		for range 300 {
			name, id := names[next(len(names))], next(9)-2
			switch next(5) {
			case 0, 1:
				old, e := x.Set(name, id)
				if want, wantE := p.set(name, id); old != want || e != wantE {
					t.Fatalf("Set(%.50q, %d) is %d, %d, not %d, %d", name, id, old, e, want, wantE)
				}
			case 2:
				old, ok := x.Delete(name)
				if want, wantOK := p.remove(name); old != want || ok != wantOK {
					t.Fatalf("Delete(%.50q) is %d, %v, not %d, %v", name, old, ok, want, wantOK)
				}
			default:
				got, ok := x.Get(name)
				if want, wantOK := p.get(name); got != want || ok != wantOK {
					t.Fatalf("Get(%.50q) is %d, %v, not %d, %v", name, got, ok, want, wantOK)
				}
			}
			check(t, x, p.l)
		}
	}
}
