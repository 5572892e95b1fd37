package rewrite

import (
	"math"
	"reflect"
	"slices"
	"strings"
	"testing"

	"remuda/api"
	"remuda/cache"
	"remuda/over"
	"remuda/reg"
	"remuda/table"
)

// Statements that the registry has, as 1 and 2, and one that it has not.
func one() api.Stmt   { return api.Stmt{Text: "select 1"} }
func two() api.Stmt   { return api.Stmt{Text: "select $1", OIDs: []int{23, 25}} }
func third() api.Stmt { return api.Stmt{Text: "select 1", OIDs: []int{23}} }

// before is what there is ahead of a message.
type before struct {
	r *reg.Registry
	t *table.Table
	l []api.Entry
}

// made has the names "" and b (of two), a and old (of one); old will be gone, and new will be there (of two).
func made(t *testing.T) before {
	t.Helper()
	names, e := table.New(8)
	if e != api.OK {
		t.Fatal(e)
	}
	b := before{r: reg.New(), t: names}
	for _, n := range []struct {
		name string
		s    api.Stmt
	}{{"a", one()}, {"", two()}, {"b", two()}, {"old", one()}} {
		if _, e := b.t.Set(n.name, b.r.Put(n.s)); e != api.OK {
			t.Fatal(e)
		}
	}
	b.l = []api.Entry{
		{Kind: api.EntSynth, Good: []api.TableOp{{Name: "old"}}},
		{Kind: api.EntParse, Good: []api.TableOp{{Set: true, Name: "new", ID: 2}}},
	}
	b.r.Ref(2)
	return b
}

// refs are how many refer to the statements from 1 on.
func (b before) refs() []int {
	var list []int
	for id := range 4 {
		list = append(list, b.r.Refs(id+1))
	}
	return list
}

// same tells whether two lists are alike, be these nil or empty.
func same[T any](a, b []T) bool {
	return len(a) == len(b) && (len(a) == 0 || reflect.DeepEqual(a, b))
}

// check tells whether f is told as it should, and refs are more by these.
func (b before) check(t *testing.T, spec []int, most int, f api.Front, fronts []api.Front, entries []api.Entry, more ...int) {
	t.Helper()
	want := b.refs()
	for i, n := range more {
		want[i] += n
	}
	gotFronts, gotEntries := Do(b.r, b.t, b.l, spec, most, f)
	if !same(gotFronts, fronts) {
		t.Errorf("of %.200v told is %.300v, not %.300v", f, gotFronts, fronts)
	}
	if !same(gotEntries, entries) {
		t.Errorf("of %.200v to come is %.300v, not %.300v", f, gotEntries, entries)
	}
	if got := b.refs(); !slices.Equal(got, want) {
		t.Errorf("behind %.200v refer %v, not %v", f, got, want)
	}
}

// parse is the message that prepares s as name.
func parse(name string, s api.Stmt) api.Front {
	return api.Front{Kind: 'P', Name: name, Text: s.Text, OIDs: s.OIDs}
}

// bind is a B of a statement, with all that it may have.
func bind(name string) api.Front {
	return api.Front{Kind: 'B', Portal: "p", Name: name, Formats: []int{0, 1}, Params: []api.Cell{{Bytes: []byte("x")}, {Null: true}}, Results: []int{1}}
}

// describe is a D of a statement.
func describe(name string) api.Front { return api.Front{Kind: 'D', What: 'S', Name: name} }

// gone is what makes room for a statement, with the hidden entry of it.
func gone(name string, id int) (api.Front, api.Entry) {
	return api.Front{Kind: 'C', What: 'S', Name: name}, api.Entry{Kind: api.EntClose, Hide: true, Cache: touch(api.CacheEvict, id)}
}

func set(name string, id int) []api.TableOp { return []api.TableOp{{Set: true, Name: name, ID: id}} }

func away(name string) []api.TableOp { return []api.TableOp{{Name: name}} }

func touch(kind, id int) []api.CacheOp { return []api.CacheOp{{Kind: kind, ID: id}} }

// P24.1: a new name of a statement that the server has not: it is prepared by the name that servers know, where there is room.
func TestParseAdds(t *testing.T) {
	for _, spec := range [][]int{nil, {}, {2}, {7, 9, 2}} {
		made(t).check(t, spec, 4, parse("c", one()),
			[]api.Front{parse("_p1", one())},
			[]api.Entry{{Kind: api.EntParse, Good: set("c", 1), Cache: touch(api.CacheAdd, 1)}}, 2)
		made(t).check(t, spec, 4, parse("old", third()),
			[]api.Front{parse("_p3", third())},
			[]api.Entry{{Kind: api.EntParse, Good: set("old", 3), Cache: touch(api.CacheAdd, 3)}}, 0, 0, 2)
	}
}

// P24.1: without room one statement is closed ahead, the one that was used first.
func TestParseRoom(t *testing.T) {
	for _, c := range []struct {
		spec []int
		most int
		name string
		id   int
	}{{[]int{2}, 1, "_p2", 2}, {[]int{9, 2}, 2, "_p9", 9}, {[]int{2, 9, 5}, 2, "_p2", 2}, {[]int{2}, 0, "_p2", 2}, {[]int{2}, math.MinInt, "_p2", 2}} {
		f, e := gone(c.name, c.id)
		made(t).check(t, c.spec, c.most, parse("c", one()),
			[]api.Front{f, parse("_p1", one())},
			[]api.Entry{e, {Kind: api.EntParse, Good: set("c", 1), Cache: touch(api.CacheAdd, 1)}}, 2)
	}
	for _, most := range []int{0, -1, math.MinInt} {
		made(t).check(t, nil, most, parse("c", one()),
			[]api.Front{parse("_p1", one())},
			[]api.Entry{{Kind: api.EntParse, Good: set("c", 1), Cache: touch(api.CacheAdd, 1)}}, 2)
	}
}

// P24.1: a statement that the server has is prepared without a name, whether there is room or not; the server does not refer to it once more.
func TestParseThere(t *testing.T) {
	for _, spec := range [][]int{{1}, {1, 2}, {2, 1}, {5, 1, 6}} {
		made(t).check(t, spec, 2, parse("c", one()),
			[]api.Front{parse("", one())},
			[]api.Entry{{Kind: api.EntParse, Good: set("c", 1), Cache: touch(api.CacheTouch, 1)}}, 1)
	}
	made(t).check(t, []int{2}, 1, parse("c", two()),
		[]api.Front{parse("", two())},
		[]api.Entry{{Kind: api.EntParse, Good: set("c", 2), Cache: touch(api.CacheTouch, 2)}}, 0, 1)
}

// P24.1: the name "" may be known: it is set, and is gone, where that fails.
func TestParseNameless(t *testing.T) {
	made(t).check(t, nil, 1, parse("", one()),
		[]api.Front{parse("_p1", one())},
		[]api.Entry{{Kind: api.EntParse, Good: set("", 1), Bad: away(""), Cache: touch(api.CacheAdd, 1)}}, 2)
	made(t).check(t, []int{2}, 1, parse("", two()),
		[]api.Front{parse("", two())},
		[]api.Entry{{Kind: api.EntParse, Good: set("", 2), Bad: away(""), Cache: touch(api.CacheTouch, 2)}}, 0, 1)
	b := made(t)
	b.t.Delete("")
	b.check(t, nil, 1, parse("", third()),
		[]api.Front{parse("_p3", third())},
		[]api.Entry{{Kind: api.EntParse, Good: set("", 3), Bad: away(""), Cache: touch(api.CacheAdd, 3)}}, 0, 0, 2)
}

// P24.1: a name that is known is told as one that each server has, be it in the table, or to come.
func TestParseKnown(t *testing.T) {
	for _, name := range []string{"a", "b", "new"} {
		for _, spec := range [][]int{nil, {1}, {2}, {1, 2}} {
			for _, s := range []api.Stmt{one(), two(), third(), {OIDs: []int{-1}}} {
				made(t).check(t, spec, 1, parse(name, s),
					[]api.Front{parse("_dup", s)},
					[]api.Entry{{Kind: api.EntParse, From: "_dup", To: name}})
			}
		}
	}
}

// P24.1: nothing is told of a statement without a key, and nothing noted.
func TestParseKeyless(t *testing.T) {
	for _, s := range []api.Stmt{
		{OIDs: []int{-1}}, {Text: "a", OIDs: []int{1, 1 << 32}}, {OIDs: []int{math.MinInt}}, {OIDs: make([]int, api.MaxCount+1)}, {Text: strings.Repeat("a", 1<<20+1)},
	} {
		for _, name := range []string{"", "c", "old"} {
			made(t).check(t, []int{1}, 1, parse(name, s), nil, nil)
		}
	}
	// The longest that has one.
	for _, s := range []api.Stmt{{Text: strings.Repeat("a", 1<<20)}, {OIDs: make([]int, api.MaxCount)}, {OIDs: []int{1<<32 - 1}}, {}} {
		made(t).check(t, nil, 1, parse("c", s),
			[]api.Front{parse("_p3", s)},
			[]api.Entry{{Kind: api.EntParse, Good: set("c", 3), Cache: touch(api.CacheAdd, 3)}}, 0, 0, 2)
	}
}

// users are the messages that name a statement, with the kinds of their entries.
func users() map[int]func(string) api.Front {
	return map[int]func(string) api.Front{api.EntBind: bind, api.EntStmt: describe}
}

// P24.1: a name that is not known, or will be gone, is told as one that no server has.
func TestUseUnknown(t *testing.T) {
	for kind, f := range users() {
		for _, name := range []string{"c", "old", "A", "a ", "_p1", "_none", strings.Repeat("n", 70000)} {
			made(t).check(t, []int{1}, 1, f(name), []api.Front{f("_none")}, []api.Entry{{Kind: kind, From: "_none", To: name}})
		}
		b := made(t)
		b.t.Delete("")
		b.check(t, nil, 1, f(""), []api.Front{f("_none")}, []api.Entry{{Kind: kind, From: "_none"}})
	}
}

// P24.1: a statement that the server has goes by the name that servers know.
func TestUseThere(t *testing.T) {
	for kind, f := range users() {
		for _, spec := range [][]int{{2}, {2, 1}, {1, 2}, {7, 2, 9}} {
			for _, name := range []string{"b", "", "new"} {
				made(t).check(t, spec, 1, f(name), []api.Front{f("_p2")},
					[]api.Entry{{Kind: kind, From: "_p2", To: name, Cache: touch(api.CacheTouch, 2)}})
			}
		}
	}
}

// P24.1: one that the server has not is prepared ahead, unseen, and another one closed, if there is no room.
func TestUseAdds(t *testing.T) {
	there := api.Entry{Kind: api.EntParse, Hide: true, Cache: touch(api.CacheAdd, 2)}
	for kind, f := range users() {
		for _, name := range []string{"b", "", "new"} {
			it := api.Entry{Kind: kind, From: "_p2", To: name, Cache: touch(api.CacheTouch, 2)}
			for _, spec := range [][]int{nil, {1}} {
				made(t).check(t, spec, 2, f(name), []api.Front{parse("_p2", two()), f("_p2")}, []api.Entry{there, it}, 0, 1)
			}
			for _, spec := range [][]int{{9}, {9, 1}, {9, 1, 4}} {
				c, e := gone("_p9", 9)
				made(t).check(t, spec, 1, f(name), []api.Front{c, parse("_p2", two()), f("_p2")}, []api.Entry{e, there, it}, 0, 1)
			}
		}
	}
}

// P24.1: no server is told that a name is closed, be it known or not: it is said, and the name gone.
func TestClose(t *testing.T) {
	for _, name := range []string{"a", "", "new", "old", "c", "_p1"} {
		for _, spec := range [][]int{nil, {1}, {1, 2}} {
			made(t).check(t, spec, 1, api.Front{Kind: 'C', What: 83, Name: name}, nil,
				[]api.Entry{{Kind: api.EntSynth, Good: away(name), Reply: []byte("3\x00\x00\x00\x04")}})
		}
	}
}

// P24.1: what speaks of no statement is told as it is; behind a query there is no nameless statement.
func TestPlain(t *testing.T) {
	for _, c := range []struct {
		f api.Front
		e api.Entry
	}{
		{api.Front{Kind: 'Q', Text: "begin"}, api.Entry{Kind: api.EntQuery, Good: away("")}},
		{api.Front{Kind: 'D', What: 80, Portal: "a"}, api.Entry{Kind: api.EntPortal}},
		{api.Front{Kind: 'C', What: 80, Portal: "a"}, api.Entry{Kind: api.EntClose}},
		{api.Front{Kind: 'E', Portal: "a", Max: 5}, api.Entry{Kind: api.EntExec}},
		{api.Front{Kind: 'E', Max: -1}, api.Entry{Kind: api.EntExec}},
		{api.Front{Kind: 'S'}, api.Entry{Kind: api.EntSync}},
	} {
		made(t).check(t, []int{2}, 1, c.f, []api.Front{c.f}, []api.Entry{c.e})
	}
	made(t).check(t, []int{2}, 1, api.Front{Kind: 'H'}, []api.Front{{Kind: 'H'}}, nil)
	made(t).check(t, []int{2}, 1, api.Front{Kind: 'X'}, nil, nil)
}

// P24.1: of a D or a C of neither a statement nor a portal, the entry has their kind, where that has one.
func TestOtherWhat(t *testing.T) {
	for _, what := range []byte{0, 's', 'p', 255} {
		d, c := api.Front{Kind: 'D', What: what, Name: "a"}, api.Front{Kind: 'C', What: what, Name: "a"}
		made(t).check(t, nil, 1, d, []api.Front{d}, []api.Entry{{}})
		made(t).check(t, nil, 1, c, []api.Front{c}, []api.Entry{{Kind: api.EntClose}})
	}
}

// P24.1, P24.2: kinds that are not served, and the end, are never told.
func TestNeeds(t *testing.T) {
	for n := range 256 {
		f := api.Front{Kind: byte(n), Name: "a", Text: "begin"}
		want := strings.IndexByte("BCDEHPQS", f.Kind) >= 0
		for _, f.What = range []byte{0, 'S', 'P'} {
			if got := Needs(f); got != want {
				t.Errorf("Needs(%+v) is %v", f, got)
			}
			if !want {
				made(t).check(t, []int{9}, 1, f, nil, nil)
			}
		}
	}
}

// P24.1: of a registry, or a table, that no call made, nobody refers to anything, and no name is known.
func TestNone(t *testing.T) {
	b := made(t)
	for _, r := range []*reg.Registry{nil, new(reg.Registry)} {
		for _, name := range []string{"", "c"} {
			if fronts, entries := Do(r, b.t, b.l, []int{1}, 1, parse(name, one())); len(fronts) > 0 || len(entries) > 0 {
				t.Errorf("told is %+v, to come %+v", fronts, entries)
			}
		}
		fronts, entries := Do(r, b.t, b.l, []int{2}, 1, bind("b"))
		if !same(fronts, []api.Front{bind("_p2")}) || len(entries) != 1 {
			t.Errorf("told is %+v, to come %+v", fronts, entries)
		}
		// What the registry has not is prepared as a statement without anything.
		fronts, entries = Do(r, b.t, b.l, nil, 1, bind("b"))
		if !same(fronts, []api.Front{parse("_p2", api.Stmt{}), bind("_p2")}) || len(entries) != 2 || r.Len() != 0 {
			t.Errorf("told is %+v, to come %+v", fronts, entries)
		}
	}
	for _, names := range []*table.Table{nil, new(table.Table)} {
		b := made(t)
		b.t = names
		b.check(t, nil, 1, bind("a"), []api.Front{bind("_none")}, []api.Entry{{Kind: api.EntBind, From: "_none", To: "a"}})
		b.check(t, []int{1}, 1, parse("a", one()), []api.Front{parse("", one())},
			[]api.Entry{{Kind: api.EntParse, Good: set("a", 1), Cache: touch(api.CacheTouch, 1)}}, 1)
		b.check(t, []int{2}, 1, bind("new"), []api.Front{bind("_p2")},
			[]api.Entry{{Kind: api.EntBind, From: "_p2", To: "new", Cache: touch(api.CacheTouch, 2)}})
	}
}

// P24.1: names may have ids that no statement has.
func TestOtherIDs(t *testing.T) {
	for id, name := range map[int]string{0: "", -1: "", math.MaxInt: "", math.MinInt: "", 77: "_p77", 1 << 31: "_p2147483648"} {
		b := made(t)
		b.t.Set("far", id)
		b.check(t, []int{id}, 1, bind("far"), []api.Front{bind(name)},
			[]api.Entry{{Kind: api.EntBind, From: name, To: "far", Cache: touch(api.CacheTouch, id)}})
		b.check(t, nil, 1, bind("far"), []api.Front{parse(name, api.Stmt{}), bind(name)},
			[]api.Entry{{Kind: api.EntParse, Hide: true, Cache: touch(api.CacheAdd, id)}, {Kind: api.EntBind, From: name, To: "far", Cache: touch(api.CacheTouch, id)}})
	}
}

// roomy is a list with room behind it.
func roomy[T any](l ...T) []T {
	return append(make([]T, 0, len(l)+4), l...)
}

// Nothing that is handed in is changed, nor shared with what is answered, room behind it included.
func TestShared(t *testing.T) {
	for _, kind := range []byte("PBDECQSH") {
		for _, name := range []string{"a", "c", ""} {
			b := made(t)
			in := func() (api.Front, []int) {
				params := roomy(api.Cell{Bytes: roomy([]byte("xy")...)}, api.Cell{Null: true})
				return api.Front{Kind: kind, What: 'S', Name: name, Text: "t", OIDs: roomy(1, 2), Formats: roomy(0, 1), Results: roomy(1), Params: params}, roomy(9, 8)
			}
			f, spec := in()
			fronts, entries := Do(b.r, b.t, b.l, spec, 2, f)
			wantFronts, wantEntries := Do(made(t).r, b.t, b.l, spec, 2, f)
			clear(f.OIDs[:cap(f.OIDs)])
			clear(f.Formats[:cap(f.Formats)])
			clear(f.Results[:cap(f.Results)])
			clear(f.Params[0].Bytes[:cap(f.Params[0].Bytes)])
			clear(f.Params[:cap(f.Params)])
			clear(spec[:cap(spec)])
			f, spec = in()
			fresh, _ := Do(made(t).r, b.t, b.l, spec, 2, f)
			if !same(fronts, fresh) || !same(entries, wantEntries) || len(fronts) != len(wantFronts) {
				t.Errorf("%q of %q: told is %+v, not %+v", kind, name, fronts, fresh)
			}
			spoil(fronts, entries)
			if again, wantSpec := in(); !reflect.DeepEqual(f, again) || !slices.Equal(spec, wantSpec) {
				t.Errorf("%q of %q: handed in is %+v now", kind, name, f)
			}
			if again := made(t); !reflect.DeepEqual(b.l, again.l) {
				t.Errorf("%q of %q: to come was %+v", kind, name, b.l)
			}
			if s, _ := b.r.Get(2); !reflect.DeepEqual(s, two()) {
				t.Errorf("%q of %q: the registry has %+v", kind, name, s)
			}
		}
	}
}

// spoil writes into all that was answered.
func spoil(fronts []api.Front, entries []api.Entry) {
	for _, f := range fronts {
		for _, l := range [][]int{f.OIDs, f.Formats, f.Results} {
			for i := range l[:cap(l)] {
				l[:cap(l)][i] = -9
			}
		}
		for i := range f.Params {
			bytes := f.Params[i].Bytes
			for j := range bytes[:cap(bytes)] {
				bytes[:cap(bytes)][j] = '?'
			}
			f.Params[i].Null = !f.Params[i].Null
		}
	}
	for _, e := range entries {
		clear(e.Good[:cap(e.Good)])
		clear(e.Bad[:cap(e.Bad)])
		clear(e.Cache[:cap(e.Cache)])
		clear(e.Reply[:cap(e.Reply)])
	}
	clear(fronts[:cap(fronts)])
	clear(entries[:cap(entries)])
}

// random goes on from a state to the next number below n.
func random(state *uint32, n int) int {
	*state = *state*1664525 + 1013904223
	return int(*state>>8) % n
}

// P24.3, P24.1: whatever comes, at most two are told ahead, a Close and a Parse, both hidden; who refers is counted; the server will have what the client's message names.
func TestRandom(t *testing.T) {
	texts := []string{"a", "b", "c", "d", "e"}
	clientNames := []string{"", "x", "y", "z"}
	for seed := range 60 {
		state := uint32(seed)
		b := before{r: reg.New(), t: nil}
		b.t, _ = table.New(8)
		most := 1 + random(&state, 3)
		var spec []int
		refs := map[int]int{}
		for range 200 {
			f := api.Front{Kind: "PPPBBDCQSEHX"[random(&state, 12)], Name: clientNames[random(&state, 4)]}
			switch f.Kind {
			case 'P':
				f.Text = texts[random(&state, 5)]
			case 'D', 'C':
				f.What = "SSP"[random(&state, 3)]
			}
			if len(b.l) > 12 {
				b.l = settle(t, b, b.l)
			}
			id, known := over.Lookup(b.t, b.l, f.Name)
			fronts, entries := Do(b.r, b.t, b.l, spec, most, f)
			own := len(fronts) - 1
			if own > 2 || own > 0 && (f.Kind != 'P' && f.Kind != 'B' && f.Kind != 'D') {
				t.Fatalf("of %+v told is %+v", f, fronts)
			}
			for i := range max(own, 0) {
				kind, want := fronts[i].Kind, byte('P')
				if len(spec) >= most && i == 0 {
					want = 'C'
				}
				if kind != want || !entries[i].Hide {
					t.Fatalf("of %+v told is %+v, to come %+v", f, fronts, entries)
				}
			}
			if n := len(entries); n > 0 && entries[n-1].Hide {
				t.Fatalf("of %+v to come is %+v", f, entries)
			}
			for _, e := range entries {
				count(refs, e)
				spec = cache.Fold(spec, e.Cache)
			}
			if len(spec) > most {
				t.Fatalf("behind %+v there are %v", f, spec)
			}
			if (f.Kind == 'B' || f.Kind == 'D' && f.What == 'S') && known && spec[len(spec)-1] != id {
				t.Fatalf("behind %+v there are %v", f, spec)
			}
			b.l = append(b.l, entries...)
			for id, n := range b.r.All() {
				if refs[id] != n {
					t.Fatalf("behind %+v refer %d to %d, not %d", f, n, id, refs[id])
				}
			}
		}
	}
}

// count notes who refers by e.
func count(refs map[int]int, e api.Entry) {
	for _, op := range e.Good {
		if op.Set {
			refs[op.ID]++
		}
	}
	for _, op := range e.Cache {
		if op.Kind == api.CacheAdd {
			refs[op.ID]++
		}
	}
}

// settle has all that is to come done, of what the table has.
func settle(t *testing.T, b before, l []api.Entry) []api.Entry {
	t.Helper()
	for _, e := range l {
		if _, e := over.Apply(b.t, e.Good); e != api.OK {
			t.Fatal(e)
		}
	}
	return nil
}
