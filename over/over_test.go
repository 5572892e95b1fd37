package over

import (
	"math"
	"reflect"
	"slices"
	"strconv"
	"testing"

	"remuda/api"
	"remuda/table"
)

// set and del are what becomes of a name.
func set(name string, id int) api.TableOp { return api.TableOp{Set: true, Name: name, ID: id} }
func del(name string) api.TableOp         { return api.TableOp{Name: name} }

// good is an entry with these Good, and with much else that counts for nothing.
func good(ops ...api.TableOp) api.Entry {
	bad := []api.TableOp{set("a", 901), del("b"), set("bad", 902), del("")}
	cache := []api.CacheOp{{Kind: api.CacheAdd, ID: 903}, {Kind: api.CacheEvict, ID: 1}}
	return api.Entry{Kind: api.EntParse, From: "a", To: "b", Good: ops, Bad: bad, Cache: cache, Reply: []byte{1}}
}

// made answers a table with room for most, and these names.
func made(t *testing.T, most int, l ...api.Named) *table.Table {
	t.Helper()
	x, e := table.New(most)
	if e != api.OK {
		t.Fatalf("New(%d) has %d", most, e)
	}
	for _, n := range l {
		if _, e := x.Set(n.Name, n.ID); e != api.OK {
			t.Fatalf("Set(%q, %d) has %d", n.Name, n.ID, e)
		}
	}
	return x
}

// all answers what x has.
func all(x *table.Table) []api.Named {
	var l []api.Named
	for name, id := range x.All() {
		l = append(l, api.Named{Name: name, ID: id})
	}
	return l
}

// some are names that the tests speak of, rising.
func some() []string { return []string{"", "a", "a\x00", "b", "bad", "c", "d", "\xff"} }

// check tells whether names will be just these, by Lookup and Many.
func check(t *testing.T, x *table.Table, l []api.Entry, want []api.Named) {
	t.Helper()
	ids := map[string]int{}
	for _, n := range want {
		ids[n.Name] = n.ID
	}
	for _, name := range some() {
		id, wantOK := ids[name]
		if got, ok := Lookup(x, l, name); got != id || ok != wantOK {
			t.Errorf("Lookup(%q) is %d, %v, not %d, %v", name, got, ok, id, wantOK)
		}
	}
	if n := Many(x, l); n != len(want) {
		t.Errorf("Many is %d, not %d", n, len(want))
	}
}

// cases are entries, with what they make of the names a 1 and b 2, and the ids that they set.
var cases = []struct {
	what string
	l    []api.Entry
	want []api.Named
	ids  []int
}{
	{"nothing", nil, []api.Named{{Name: "a", ID: 1}, {Name: "b", ID: 2}}, nil},
	{"an empty list", []api.Entry{}, []api.Named{{Name: "a", ID: 1}, {Name: "b", ID: 2}}, nil},
	{"entries without Good", []api.Entry{good(), {Kind: api.EntSync}, {}}, []api.Named{{Name: "a", ID: 1}, {Name: "b", ID: 2}}, nil},
	{"a new name", []api.Entry{good(set("c", 3))}, []api.Named{{Name: "a", ID: 1}, {Name: "b", ID: 2}, {Name: "c", ID: 3}}, []int{3}},
	{"a name that is there", []api.Entry{good(set("a", 3))}, []api.Named{{Name: "a", ID: 3}, {Name: "b", ID: 2}}, []int{3}},
	{"the name with nothing", []api.Entry{good(set("", 3))}, []api.Named{{Name: "", ID: 3}, {Name: "a", ID: 1}, {Name: "b", ID: 2}}, []int{3}},
	{"a deletion", []api.Entry{good(del("a"))}, []api.Named{{Name: "b", ID: 2}}, nil},
	{"a deletion of what is not there", []api.Entry{good(del("c"))}, []api.Named{{Name: "a", ID: 1}, {Name: "b", ID: 2}}, nil},
	{"a deletion with a number", []api.Entry{good(api.TableOp{Name: "a", ID: 7}, api.TableOp{Name: "c", ID: 8})}, []api.Named{{Name: "b", ID: 2}}, nil},
	{"two deletions", []api.Entry{good(del("a")), good(del("a"), del("b"))}, nil, nil},
	{"set twice in one", []api.Entry{good(set("c", 3), set("c", 4))}, []api.Named{{Name: "a", ID: 1}, {Name: "b", ID: 2}, {Name: "c", ID: 4}}, []int{3, 4}},
	{"set twice in two", []api.Entry{good(set("c", 4)), good(set("c", 3))}, []api.Named{{Name: "a", ID: 1}, {Name: "b", ID: 2}, {Name: "c", ID: 3}}, []int{4, 3}},
	{"set, then deleted", []api.Entry{good(set("c", 3), set("a", 4)), good(del("c"), del("a"))}, []api.Named{{Name: "b", ID: 2}}, []int{3, 4}},
	{"deleted, then set", []api.Entry{good(del("c"), del("a")), good(set("c", 3), set("a", 4))}, []api.Named{{Name: "a", ID: 4}, {Name: "b", ID: 2}, {Name: "c", ID: 3}}, []int{3, 4}},
	{"deleted, set, deleted", []api.Entry{good(del("a"), set("a", 9), del("a")), good(set("d", 5))}, []api.Named{{Name: "b", ID: 2}, {Name: "d", ID: 5}}, []int{9, 5}},
	{"names that are nearly one", []api.Entry{good(set("a\x00", 3), set("\xff", 4))}, []api.Named{{Name: "a", ID: 1}, {Name: "a\x00", ID: 3}, {Name: "b", ID: 2}, {Name: "\xff", ID: 4}}, []int{3, 4}},
	{"numbers that are none", []api.Entry{good(set("a", 0), set("b", -1), set("c", math.MinInt)), good(set("d", math.MaxInt))}, []api.Named{{Name: "a", ID: 0}, {Name: "b", ID: -1}, {Name: "c", ID: math.MinInt}, {Name: "d", ID: math.MaxInt}}, []int{0, -1, math.MinInt, math.MaxInt}},
	{"hidden ones, and ones of other kinds", []api.Entry{
		{Kind: api.EntSynth, Good: []api.TableOp{del("a")}},
		{Kind: api.EntParse, Hide: true, Good: []api.TableOp{set("c", 3)}},
		{Kind: -1, Good: []api.TableOp{set("d", 3)}},
	}, []api.Named{{Name: "b", ID: 2}, {Name: "c", ID: 3}, {Name: "d", ID: 3}}, []int{3, 3}},
}

// P16.1: what names will have, how many there will be, and what is set.
func TestComing(t *testing.T) {
	for _, c := range cases {
		t.Run(c.what, func(t *testing.T) {
			x := made(t, 64, api.Named{Name: "a", ID: 1}, api.Named{Name: "b", ID: 2})
			check(t, x, c.l, c.want)
			if got := IDs(c.l); !slices.Equal(got, c.ids) {
				t.Errorf("IDs are %v, not %v", got, c.ids)
			}
			// Nothing has come about yet.
			if got := all(x); !slices.Equal(got, []api.Named{{Name: "a", ID: 1}, {Name: "b", ID: 2}}) {
				t.Errorf("the table has %v", got)
			}
		})
	}
}

// P16.1: names are looked up as if all went well, whether there is room or not.
func TestComingWithoutRoom(t *testing.T) {
	x := made(t, 1, api.Named{Name: "a", ID: 1})
	l := []api.Entry{good(set("b", 2)), good(set("c", 3))}
	check(t, x, l, []api.Named{{Name: "a", ID: 1}, {Name: "b", ID: 2}, {Name: "c", ID: 3}})
}

// P16.2: of a table that no call made it is as of one without names.
func TestComingNotMade(t *testing.T) {
	for _, x := range []*table.Table{nil, {}} {
		check(t, x, nil, nil)
		check(t, x, []api.Entry{good(del("a"), del(""))}, nil)
		check(t, x, []api.Entry{good(set("b", 2), set("a", 1)), good(del("b"), set("c", 0))}, []api.Named{{Name: "a", ID: 1}, {Name: "c", ID: 0}})
		if x.Len() != 0 {
			t.Error("there is something")
		}
	}
}

// P16.1: what is handed in stays, its spare room included; what is answered may be changed.
func TestComingApart(t *testing.T) {
	x := made(t, 2, api.Named{Name: "a", ID: 1})
	ops := func() []api.TableOp { return []api.TableOp{set("a", 3), del("b"), set("c", 4), del("spare")} }
	room := ops()
	l := []api.Entry{good(room[:3]...), good(set("d", 5)), {To: "spare"}}
	want := []api.Entry{good(ops()[:3]...), good(set("d", 5)), {To: "spare"}}
	for range 2 {
		Lookup(x, l[:2], "a")
		Many(x, l[:2])
		ids := IDs(l[:2])
		if !slices.Equal(ids, []int{3, 4, 5}) {
			t.Fatalf("IDs are %v", ids)
		}
		_ = append(ids, 9)
		clear(ids)
		if !reflect.DeepEqual(l, want) || !slices.Equal(room, ops()) {
			t.Fatalf("the entries are %v", l)
		}
	}
	if got := all(x); !slices.Equal(got, []api.Named{{Name: "a", ID: 1}}) {
		t.Fatalf("the table has %v", got)
	}
}

// P16.2: Apply does op by op, up to the first error, and tells what names had ahead.
func TestApply(t *testing.T) {
	for _, c := range []struct {
		what string
		most int
		ops  []api.TableOp
		had  []int
		e    api.Errno
		want []api.Named
	}{
		{"nothing", 2, nil, nil, api.OK, []api.Named{{Name: "a", ID: 1}, {Name: "b", ID: 2}}},
		{"a new name", 3, []api.TableOp{set("c", 3)}, nil, api.OK, []api.Named{{Name: "a", ID: 1}, {Name: "b", ID: 2}, {Name: "c", ID: 3}}},
		{"a name that is there", 2, []api.TableOp{set("a", 3)}, []int{1}, api.OK, []api.Named{{Name: "a", ID: 3}, {Name: "b", ID: 2}}},
		{"what it has already", 2, []api.TableOp{set("b", 2)}, []int{2}, api.OK, []api.Named{{Name: "a", ID: 1}, {Name: "b", ID: 2}}},
		{"a deletion", 2, []api.TableOp{del("b")}, []int{2}, api.OK, []api.Named{{Name: "a", ID: 1}}},
		{"a deletion of what is not there", 2, []api.TableOp{del("c"), {Name: "", ID: 5}}, nil, api.OK, []api.Named{{Name: "a", ID: 1}, {Name: "b", ID: 2}}},
		{"in order", 3, []api.TableOp{del("b"), set("c", 3), set("a", 4), set("c", 5), set("a", 6), del("a")}, []int{2, 1, 3, 4, 6}, api.OK, []api.Named{{Name: "c", ID: 5}}},
		{"deleted, then set", 2, []api.TableOp{del("b"), set("b", 3)}, []int{2}, api.OK, []api.Named{{Name: "a", ID: 1}, {Name: "b", ID: 3}}},
		{"numbers that are none", 2, []api.TableOp{set("a", 0), set("b", -5), set("a", math.MinInt), set("b", 1), del("a"), set("b", 2)}, []int{1, 2, 1}, api.OK, []api.Named{{Name: "b", ID: 2}}},
		{"a deletion makes room", 2, []api.TableOp{del("a"), set("c", 3)}, []int{1}, api.OK, []api.Named{{Name: "b", ID: 2}, {Name: "c", ID: 3}}},
		{"no room", 2, []api.TableOp{set("c", 3)}, nil, api.ErrFull, []api.Named{{Name: "a", ID: 1}, {Name: "b", ID: 2}}},
		{"no room, and nothing behind it", 2, []api.TableOp{set("c", 3), set("a", 4), del("b"), set("d", 5)}, nil, api.ErrFull, []api.Named{{Name: "a", ID: 1}, {Name: "b", ID: 2}}},
		{"no room any more", 3, []api.TableOp{set("c", 3), set("b", 4), set("a", 5), set("d", 6), del("a"), set("b", 7)}, []int{2, 1}, api.ErrFull, []api.Named{{Name: "a", ID: 5}, {Name: "b", ID: 4}, {Name: "c", ID: 3}}},
	} {
		t.Run(c.what, func(t *testing.T) {
			x := made(t, c.most, api.Named{Name: "a", ID: 1}, api.Named{Name: "b", ID: 2})
			had, e := Apply(x, c.ops)
			if !slices.Equal(had, c.had) || e != c.e {
				t.Errorf("Apply is %v, %d, not %v, %d", had, e, c.had, c.e)
			}
			if got := all(x); !slices.Equal(got, c.want) {
				t.Errorf("the table has %v, not %v", got, c.want)
			}
		})
	}
}

// P16.2: of a table that no call made a Set is ErrNil, and a deletion nothing.
func TestApplyNotMade(t *testing.T) {
	for _, c := range []struct {
		ops []api.TableOp
		e   api.Errno
	}{
		{nil, api.OK},
		{[]api.TableOp{del("a")}, api.OK},
		{[]api.TableOp{del("a"), {Name: "", ID: 4}, del("a")}, api.OK},
		{[]api.TableOp{set("a", 1)}, api.ErrNil},
		{[]api.TableOp{set("a", 0), del("a")}, api.ErrNil},
		{[]api.TableOp{del("a"), set("a", 1)}, api.ErrNil},
	} {
		for _, x := range []*table.Table{nil, {}} {
			if had, e := Apply(x, c.ops); len(had) != 0 || e != c.e {
				t.Errorf("Apply of %v is %v, %d, not %d", c.ops, had, e, c.e)
			}
			if x.Len() != 0 {
				t.Errorf("there is something behind %v", c.ops)
			}
		}
	}
}

// P16.2: the ops that are handed in stay, and are not kept; what is answered may be changed.
func TestApplyApart(t *testing.T) {
	x := made(t, 2, api.Named{Name: "a", ID: 1})
	want := []api.TableOp{set("a", 3), set("b", 4), set("a", 5), del("spare")}
	ops := slices.Clone(want)
	had, e := Apply(x, ops[:3])
	if !slices.Equal(had, []int{1, 3}) || e != api.OK || !slices.Equal(ops, want) {
		t.Fatalf("Apply is %v, %d, the ops %v", had, e, ops)
	}
	_ = append(had, 9)
	clear(had)
	clear(ops)
	if got := all(x); !slices.Equal(got, []api.Named{{Name: "a", ID: 5}, {Name: "b", ID: 4}}) {
		t.Fatalf("the table has %v", got)
	}
}

// script makes numbers below n, the same ones for the same seed.
func script(seed uint32) func(n int) int {
	return func(n int) int {
		seed = seed*1664525 + 1013904223
		return int(seed>>16) % n
	}
}

// P16.1, P16.2, P16.3: for any entries, Lookup is Get, Many is Len, and IDs are what was set, once all Good were applied.
func TestScripts(t *testing.T) {
	for seed := range uint32(300) {
		next := script(seed)
		x := made(t, len(some()))
		for range next(len(some())) {
			x.Set(some()[next(len(some()))], next(9)-1)
		}
		var l []api.Entry
		var ids []int
		for range next(9) {
			var ops []api.TableOp
			for range next(4) {
				op := api.TableOp{Set: next(3) > 0, Name: some()[next(len(some()))], ID: next(20) - 1}
				if op.Set {
					ids = append(ids, op.ID)
				}
				ops = append(ops, op)
			}
			l = append(l, good(ops...))
		}
		if got := IDs(l); !slices.Equal(got, ids) {
			t.Fatalf("IDs are %v, not %v", got, ids)
		}
		many := Many(x, l)
		found := map[string]int{}
		for _, name := range some() {
			if id, ok := Lookup(x, l, name); ok {
				found[name] = id
			}
		}
		for _, e := range l {
			applyChecked(t, x, e.Good)
		}
		if x.Len() != many || len(found) != many {
			t.Fatalf("Many is %d, Len %d, and %v were found", many, x.Len(), found)
		}
		for name, id := range found {
			if got, ok := x.Get(name); got != id || !ok {
				t.Fatalf("Get(%q) is %d, %v, Lookup was %d", name, got, ok, id)
			}
		}
	}
}

// applyChecked applies ops to x, and tells whether the answer is what the names had ahead.
func applyChecked(t *testing.T, x *table.Table, ops []api.TableOp) {
	t.Helper()
	ids := map[string]int{}
	for name, id := range x.All() {
		ids[name] = id
	}
	var want []int
	for _, op := range ops {
		if ids[op.Name] > 0 {
			want = append(want, ids[op.Name])
		}
		ids[op.Name] = op.ID
		if !op.Set {
			delete(ids, op.Name)
		}
	}
	if had, e := Apply(x, ops); !slices.Equal(had, want) || e != api.OK {
		t.Fatalf("Apply of %v is %v, %d, not %v", ops, had, e, want)
	}
	if x.Len() != len(ids) {
		t.Fatalf("there are %d names behind %v, not %d", x.Len(), ops, len(ids))
	}
}

// P16.1: of a great table, and many entries, as of small ones.
func TestGreat(t *testing.T) {
	x := made(t, 4096)
	var l []api.Entry
	for i := range 4096 {
		name := strconv.Itoa(i)
		x.Set(name, i+1)
		switch i % 4 {
		case 0:
			l = append(l, good(del(name)))
		case 1:
			l = append(l, good(set(name, i+10000), set("new"+name, i+20000)))
		}
	}
	if n := Many(x, l); n != 4096 {
		t.Fatalf("Many is %d", n)
	}
	for i, want := range []int{0, 10001, 3, 4, 0, 10005} {
		if id, ok := Lookup(x, l, strconv.Itoa(i)); id != want || ok != (want > 0) {
			t.Errorf("Lookup of %d is %d, %v, not %d", i, id, ok, want)
		}
	}
	if id, ok := Lookup(x, l, "new4093"); id != 24093 || !ok {
		t.Errorf("Lookup is %d, %v", id, ok)
	}
	if ids := IDs(l); len(ids) != 2048 || ids[0] != 10001 || ids[2047] != 24093 {
		t.Errorf("IDs are %d", len(ids))
	}
}
