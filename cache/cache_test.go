package cache

import (
	"math"
	"reflect"
	"slices"
	"testing"

	"remuda/api"
)

// add, evict and touch are what becomes of a statement; ofKind is an op of any kind.
func add(id int) api.CacheOp          { return api.CacheOp{Kind: api.CacheAdd, ID: id} }
func evict(id int) api.CacheOp        { return api.CacheOp{Kind: api.CacheEvict, ID: id} }
func touch(id int) api.CacheOp        { return api.CacheOp{Kind: api.CacheTouch, ID: id} }
func ofKind(kind, id int) api.CacheOp { return api.CacheOp{Kind: kind, ID: id} }

// entry is an entry with these ops, and with much else that counts for nothing.
func entry(ops ...api.CacheOp) api.Entry {
	names := []api.TableOp{{Set: true, Name: "a", ID: 901}, {Name: "b", ID: 1}}
	return api.Entry{Kind: api.EntParse, From: "a", To: "b", Good: names, Bad: names, Cache: ops, Reply: []byte{1}}
}

// made answers a cache with room for most, and these ids.
func made(t *testing.T, most int, ids ...int) *Cache {
	t.Helper()
	c, e := New(most)
	if e != api.OK || c == nil {
		t.Fatalf("New(%d) is %v, %d", most, c, e)
	}
	for _, id := range ids {
		settle(t, c, []api.CacheOp{add(id)})
	}
	check(t, c, most, ids...)
	return c
}

// settle settles ops, and tells whether just these ids are gone.
func settle(t *testing.T, c *Cache, ops []api.CacheOp, gone ...int) {
	t.Helper()
	if got := c.Settle(ops); !slices.Equal(got, gone) {
		t.Fatalf("Settle of %v is %v, not %v", ops, got, gone)
	}
}

// check tells whether c has room for most, and just these ids, in this order.
func check(t *testing.T, c *Cache, most int, want ...int) {
	t.Helper()
	if got := c.List(); !slices.Equal(got, want) {
		t.Fatalf("List is %v, not %v", got, want)
	}
	if got := c.Spec(nil); !slices.Equal(got, want) {
		t.Fatalf("Spec of nothing is %v, not %v", got, want)
	}
	if c.Most() != most {
		t.Fatalf("Most is %d, not %d", c.Most(), most)
	}
}

// cases are ops on the ids 1, 2, 3 with room for 5, what they make of them, and which of these are gone.
var cases = []struct {
	what       string
	ops        []api.CacheOp
	want, gone []int
}{
	{"nothing", nil, []int{1, 2, 3}, nil},
	{"an empty list", []api.CacheOp{}, []int{1, 2, 3}, nil},
	{"a new one", []api.CacheOp{add(4)}, []int{1, 2, 3, 4}, nil},
	{"two new ones", []api.CacheOp{add(5), add(4)}, []int{1, 2, 3, 5, 4}, nil},
	{"a new one twice", []api.CacheOp{add(4), add(4)}, []int{1, 2, 3, 4}, nil},
	{"one that is there already stays where it is", []api.CacheOp{add(1), add(2), add(3)}, []int{1, 2, 3}, nil},
	{"the first one is gone", []api.CacheOp{evict(1)}, []int{2, 3}, []int{1}},
	{"one in the middle is gone", []api.CacheOp{evict(2)}, []int{1, 3}, []int{2}},
	{"the last one is gone", []api.CacheOp{evict(3)}, []int{1, 2}, []int{3}},
	{"one is gone twice", []api.CacheOp{evict(2), evict(2)}, []int{1, 3}, []int{2}},
	{"one that is not there goes", []api.CacheOp{evict(4)}, []int{1, 2, 3}, nil},
	{"all are gone, in the list's order", []api.CacheOp{evict(3), evict(1), evict(2)}, nil, []int{1, 2, 3}},
	{"two are gone, in the list's order as it was", []api.CacheOp{touch(1), evict(3), evict(1)}, []int{2}, []int{1, 3}},
	{"the first one is used", []api.CacheOp{touch(1)}, []int{2, 3, 1}, nil},
	{"one in the middle is used", []api.CacheOp{touch(2)}, []int{1, 3, 2}, nil},
	{"the last one is used", []api.CacheOp{touch(3)}, []int{1, 2, 3}, nil},
	{"one that is not there is used", []api.CacheOp{touch(4)}, []int{1, 2, 3}, nil},
	{"all are used", []api.CacheOp{touch(2), touch(3), touch(1)}, []int{2, 3, 1}, nil},
	{"gone, then there again", []api.CacheOp{evict(1), add(1)}, []int{2, 3, 1}, nil},
	{"gone, then used", []api.CacheOp{evict(1), touch(1)}, []int{2, 3}, []int{1}},
	{"there, then gone", []api.CacheOp{add(4), evict(4)}, []int{1, 2, 3}, nil},
	{"there, then used", []api.CacheOp{add(4), add(5), touch(4)}, []int{1, 2, 3, 5, 4}, nil},
	{"used ahead of being there", []api.CacheOp{touch(4), add(4), add(5)}, []int{1, 2, 3, 4, 5}, nil},
	{"the chapter's example", []api.CacheOp{touch(1), add(4), evict(2)}, []int{3, 1, 4}, []int{2}},
	{"other kinds", []api.CacheOp{ofKind(0, 1), ofKind(4, 4), ofKind(-1, 2), ofKind(math.MaxInt, 3), ofKind(math.MinInt, 4), {}}, []int{1, 2, 3}, nil},
	{"other kinds among these", []api.CacheOp{ofKind(4, 9), touch(1), ofKind(0, 9), add(9), ofKind(5, 9)}, []int{2, 3, 1, 9}, nil},
	{"numbers that are none", []api.CacheOp{add(0), add(math.MinInt)}, []int{1, 2, 3, 0, math.MinInt}, nil},
	{"numbers that are none, used and gone", []api.CacheOp{add(0), add(-1), touch(0), evict(-1), add(math.MaxInt)}, []int{1, 2, 3, 0, math.MaxInt}, nil},
}

// P18.1: there is room for 1 to 4096 statements, and none at first.
func TestNew(t *testing.T) {
	for _, most := range []int{1, 2, 64, 4095, 4096} {
		made(t, most)
	}
	for _, most := range []int{math.MinInt, -4096, -1, 0, 4097, 65535, 1 << 32, 1<<32 + 1, math.MaxInt} {
		if c, e := New(most); c != nil || e != api.ErrArg {
			t.Errorf("New(%d) is %v, %d", most, c, e)
		}
	}
}

// P18.1: a list as ops make it.
func TestFold(t *testing.T) {
	for _, c := range cases {
		if got := Fold([]int{1, 2, 3}, c.ops); !slices.Equal(got, c.want) {
			t.Errorf("%s: Fold is %v, not %v", c.what, got, c.want)
		}
	}
	for _, list := range [][]int{nil, {}} {
		if got := Fold(list, nil); len(got) != 0 {
			t.Errorf("Fold of nothing is %v", got)
		}
		if got := Fold(list, []api.CacheOp{touch(1), evict(1), add(2), add(1)}); !slices.Equal(got, []int{2, 1}) {
			t.Errorf("Fold of nothing by ops is %v", got)
		}
	}
}

// P18.1: a list that no cache has, since a number stands in it more than once.
func TestFoldTwice(t *testing.T) {
	list := []int{1, 2, 1, 3}
	for _, c := range []struct {
		ops  []api.CacheOp
		want []int
	}{
		{nil, []int{1, 2, 1, 3}},
		{[]api.CacheOp{add(1), ofKind(0, 1)}, []int{1, 2, 1, 3}},
		{[]api.CacheOp{evict(1)}, []int{2, 3}},
		{[]api.CacheOp{touch(1)}, []int{2, 3, 1}},
		{[]api.CacheOp{touch(2)}, []int{1, 1, 3, 2}},
	} {
		if got := Fold(list, c.ops); !slices.Equal(got, c.want) {
			t.Errorf("Fold by %v is %v, not %v", c.ops, got, c.want)
		}
	}
}

// P18.1: Fold has no bound.
func TestFoldLong(t *testing.T) {
	var list, want []int
	var ops []api.CacheOp
	for i := range 5000 {
		list = append(list, i)
		if i%2 == 0 {
			ops = append(ops, evict(i), add(5000+i/2))
		} else {
			want = append(want, i)
		}
	}
	for i := range 2500 {
		want = append(want, 5000+i)
	}
	if got := Fold(list, ops); !slices.Equal(got, want) {
		t.Fatalf("Fold has %d, not %d", len(got), len(want))
	}
}

// P18.1: what is settled is the list as ops make it, and who is there no more is told.
func TestSettle(t *testing.T) {
	for _, c := range cases {
		t.Run(c.what, func(t *testing.T) {
			x := made(t, 5, 1, 2, 3)
			settle(t, x, c.ops, c.gone...)
			check(t, x, 5, c.want...)
		})
	}
}

// P18.1, P18.2: what is to come is the list as ops make it, in whichever entries they stand; nothing has come about yet.
func TestSpec(t *testing.T) {
	for _, c := range cases {
		t.Run(c.what, func(t *testing.T) {
			x := made(t, 5, 1, 2, 3)
			each := []api.Entry{entry(), {}}
			for i := range c.ops {
				each = append(each, entry(c.ops[i:i+1]...), api.Entry{Kind: api.EntSync})
			}
			half := len(c.ops) / 2
			for _, l := range [][]api.Entry{each, {entry(c.ops...)}, {entry(c.ops[:half]...), entry(c.ops[half:]...)}} {
				if got := x.Spec(l); !slices.Equal(got, c.want) {
					t.Fatalf("Spec is %v, not %v", got, c.want)
				}
				check(t, x, 5, 1, 2, 3)
			}
		})
	}
}

// P18.1: ops count in hidden entries, and in ones of any kind.
func TestSpecOfAllKinds(t *testing.T) {
	x := made(t, 5, 1, 2)
	var l []api.Entry
	for kind := -1; kind <= api.EntSynth+1; kind++ {
		l = append(l, api.Entry{Kind: kind, Hide: kind%2 == 0, Cache: []api.CacheOp{add(100 + kind)}})
	}
	want := []int{1, 2}
	for _, e := range l {
		want = append(want, 100+e.Kind)
	}
	if got := x.Spec(l); !slices.Equal(got, want) {
		t.Fatalf("Spec is %v, not %v", got, want)
	}
}

// P18.1: one that is added where there is no room is nothing, also later; Spec and Fold go on without a bound.
func TestFull(t *testing.T) {
	for _, c := range []struct {
		what             string
		ops              []api.CacheOp
		want, gone, fold []int
	}{
		{"a new one", []api.CacheOp{add(4)}, []int{1, 2, 3}, nil, []int{1, 2, 3, 4}},
		{"new ones", []api.CacheOp{add(4), add(5)}, []int{1, 2, 3}, nil, []int{1, 2, 3, 4, 5}},
		{"one that is there", []api.CacheOp{add(2)}, []int{1, 2, 3}, nil, []int{1, 2, 3}},
		{"one goes too late", []api.CacheOp{add(4), evict(1)}, []int{2, 3}, []int{1}, []int{2, 3, 4}},
		{"one goes ahead", []api.CacheOp{evict(1), add(4)}, []int{2, 3, 4}, []int{1}, []int{2, 3, 4}},
		{"one goes ahead of two", []api.CacheOp{evict(2), add(4), add(5)}, []int{1, 3, 4}, []int{2}, []int{1, 3, 4, 5}},
		{"one that came goes again", []api.CacheOp{evict(2), add(4), evict(4), add(5)}, []int{1, 3, 5}, []int{2}, []int{1, 3, 5}},
		{"one that did not come is used", []api.CacheOp{add(4), touch(4), touch(1)}, []int{2, 3, 1}, nil, []int{2, 3, 4, 1}},
		{"one that did not come goes", []api.CacheOp{add(4), evict(4)}, []int{1, 2, 3}, nil, []int{1, 2, 3}},
	} {
		t.Run(c.what, func(t *testing.T) {
			x := made(t, 3, 1, 2, 3)
			if got := x.Spec([]api.Entry{entry(c.ops...)}); !slices.Equal(got, c.fold) {
				t.Errorf("Spec is %v, not %v", got, c.fold)
			}
			if got := Fold([]int{1, 2, 3}, c.ops); !slices.Equal(got, c.fold) {
				t.Errorf("Fold is %v, not %v", got, c.fold)
			}
			settle(t, x, c.ops, c.gone...)
			check(t, x, 3, c.want...)
		})
	}
}

// P18.1: a cache has room for just as many as New was told.
func TestRoom(t *testing.T) {
	for _, most := range []int{1, 2, 3, 64, 4095, 4096} {
		c := made(t, most)
		var ops []api.CacheOp
		var want []int
		for id := range most + 2 {
			ops = append(ops, add(id))
			want = append(want, id)
		}
		settle(t, c, ops)
		check(t, c, most, want[:most]...)
		settle(t, c, []api.CacheOp{evict(0), add(most), add(most + 1)}, 0)
		check(t, c, most, want[1:most+1]...)
	}
}

// P18.1: what no call made has nothing, and nothing comes there.
func TestNotMade(t *testing.T) {
	for _, c := range []*Cache{nil, {}, new(Cache)} {
		check(t, c, 0)
		for _, x := range cases {
			settle(t, c, x.ops)
			if got := c.Spec([]api.Entry{entry(x.ops...)}); len(got) != 0 {
				t.Fatalf("Spec of %v is %v", x.ops, got)
			}
			check(t, c, 0)
		}
	}
}

// P18.1: what is handed in stays, its spare room included, and is not kept.
func TestArgumentsStay(t *testing.T) {
	room := []int{1, 2, 3, 9, 9, 9}
	wantOps := []api.CacheOp{touch(1), add(4), evict(2), add(5), evict(9)}
	ops := slices.Clone(wantOps)
	l := []api.Entry{entry(ops[:2]...), entry(ops[2:4]...), {To: "spare"}}
	want := []api.Entry{entry(wantOps[:2]...), entry(wantOps[2:4]...), {To: "spare"}}
	c := made(t, 5, 1, 2, 3)
	for range 2 {
		if got := Fold(room[:3], ops[:4]); !slices.Equal(got, []int{3, 1, 4, 5}) {
			t.Fatalf("Fold is %v", got)
		}
		if got := c.Spec(l[:2]); !slices.Equal(got, []int{3, 1, 4, 5}) {
			t.Fatalf("Spec is %v", got)
		}
	}
	settle(t, c, ops[:4], 2)
	if !slices.Equal(room, []int{1, 2, 3, 9, 9, 9}) || !slices.Equal(ops, wantOps) || !reflect.DeepEqual(l, want) {
		t.Fatalf("there are %v, %v, %v", room, ops, l)
	}
	clear(ops)
	check(t, c, 5, 3, 1, 4, 5)
}

// P18.1: what is answered may be changed, its spare room included.
func TestAnswersApart(t *testing.T) {
	list := []int{1, 2, 3}
	c := made(t, 5, 1, 2, 3)
	for _, got := range [][]int{c.List(), c.Spec(nil), c.Spec([]api.Entry{entry(add(4))}), Fold(list, nil), Fold(list, []api.CacheOp{ofKind(0, 1)}), c.Settle(nil)} {
		_ = append(got, 9)
		clear(got)
		check(t, c, 5, 1, 2, 3)
		if !slices.Equal(list, []int{1, 2, 3}) {
			t.Fatalf("the list is %v", list)
		}
	}
	gone := c.Settle([]api.CacheOp{evict(2)})
	old := c.List()
	gone[0] = 7
	_ = append(gone, 8, 9)
	check(t, c, 5, 1, 3)
	settle(t, c, []api.CacheOp{touch(1)})
	if !slices.Equal(old, []int{1, 3}) {
		t.Fatalf("the List of before is %v", old)
	}
}

// P18.1: two caches are not one.
func TestTwoCaches(t *testing.T) {
	a, b := made(t, 1, 1), made(t, 2, 1, 2)
	settle(t, a, []api.CacheOp{evict(1), add(5)}, 1)
	settle(t, b, []api.CacheOp{touch(1)})
	check(t, a, 1, 5)
	check(t, b, 2, 2, 1)
}

// script makes numbers below n, the same ones for the same seed.
func script(seed uint32) func(n int) int {
	return func(n int) int {
		seed = seed*1664525 + 1013904223
		return int(seed>>16) % n
	}
}

// someOps are up to four ops on ids below ten, some of another kind.
func someOps(next func(n int) int) []api.CacheOp {
	var ops []api.CacheOp
	for range next(5) {
		ops = append(ops, ofKind(next(5), next(10)))
	}
	return ops
}

// P18.1, P18.2: for any entries, Spec is Fold of the List, and is the List, once all was settled, as long as there is room; who was there, and is no more, is told.
func TestScripts(t *testing.T) {
	for seed := range uint32(500) {
		next := script(seed)
		c := made(t, 10)
		for range 8 {
			var l []api.Entry
			var all []api.CacheOp
			for range next(6) {
				ops := someOps(next)
				l, all = append(l, entry(ops...)), append(all, ops...)
			}
			spec := c.Spec(l)
			if want := Fold(c.List(), all); !slices.Equal(spec, want) {
				t.Fatalf("Spec is %v, not %v", spec, want)
			}
			for _, e := range l {
				settleChecked(t, c, e.Cache)
			}
			check(t, c, 10, spec...)
		}
	}
}

// settleChecked settles ops, and tells whether those are answered that were there, and are no more.
func settleChecked(t *testing.T, c *Cache, ops []api.CacheOp) {
	t.Helper()
	had := c.List()
	gone := c.Settle(ops)
	var want []int
	for _, id := range had {
		if !slices.Contains(c.List(), id) {
			want = append(want, id)
		}
	}
	if !slices.Equal(gone, want) {
		t.Fatalf("Settle of %v is %v, not %v", ops, gone, want)
	}
}

// P18.1, P17.2: whatever is settled, nothing is there twice, and never more than most; one that finds no room is nothing.
func TestScriptsWithoutRoom(t *testing.T) {
	for seed := range uint32(300) {
		next := script(seed)
		most := 1 + next(6)
		c := made(t, most)
		for range 30 {
			want := c.List()
			ops := someOps(next)
			for _, op := range ops {
				if op.Kind != api.CacheAdd || len(want) < most {
					want = Fold(want, []api.CacheOp{op})
				}
			}
			settleChecked(t, c, ops)
			check(t, c, most, want...)
			slices.Sort(want)
			if len(want) > most || len(slices.Compact(want)) != len(c.List()) {
				t.Fatalf("List is %v with room for %d", c.List(), most)
			}
		}
	}
}
