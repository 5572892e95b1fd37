package inject

import (
	"math"
	"reflect"
	"slices"
	"strconv"
	"strings"
	"testing"

	"remuda/api"
	"remuda/cache"
)

// stmt is a statement with types.
func stmt() api.Stmt { return api.Stmt{Text: "select $1", OIDs: []int{23, 25}} }

// closed is what is told that the statement of this name goes, and what is to come of it.
func closed(name string, id int) (api.Front, api.Entry) {
	return api.Front{Kind: 'C', What: 83, Name: name}, api.Entry{Kind: api.EntClose, Hide: true, Cache: []api.CacheOp{{Kind: api.CacheEvict, ID: id}}}
}

// parsed is what is told that stmt comes by this name, and what is to come of it.
func parsed(name string, id int) (api.Front, api.Entry) {
	return api.Front{Kind: 'P', Name: name, Text: "select $1", OIDs: []int{23, 25}}, api.Entry{Kind: api.EntParse, Hide: true, Cache: []api.CacheOp{{Kind: api.CacheAdd, ID: id}}}
}

// same tells whether two lists are alike, be these nil or empty.
func same[T any](a, b []T) bool {
	return len(a) == len(b) && (len(a) == 0 || reflect.DeepEqual(a, b))
}

// check tells whether just these were told.
func check(t *testing.T, what string, fronts, wantFronts []api.Front, entries, wantEntries []api.Entry) {
	t.Helper()
	if !same(fronts, wantFronts) {
		t.Errorf("%s: told is %+v, not %+v", what, fronts, wantFronts)
	}
	if !same(entries, wantEntries) {
		t.Errorf("%s: to come is %+v, not %+v", what, entries, wantEntries)
	}
}

// P19.1: a P with the name, and the statement's text and types.
func TestParse(t *testing.T) {
	for _, name := range []string{"", "_p1", "_dup", "_none", "a", "a b", "\x00", "\xff", strings.Repeat("n", 70000)} {
		for _, s := range []api.Stmt{
			{}, {Text: "a"}, {OIDs: []int{1}}, {Text: "begin", OIDs: []int{23}}, stmt(), {Text: "a\x00b\xff", OIDs: []int{0, -1, math.MinInt, math.MaxInt}},
			{Text: strings.Repeat("t", 70000), OIDs: make([]int, 70000)},
		} {
			want := api.Front{Kind: 'P', Name: name, Text: s.Text, OIDs: s.OIDs}
			if got := Parse(name, s); !reflect.DeepEqual(got, want) {
				t.Errorf("Parse(%.20q, %.20q with %d) is %.100v", name, s.Text, len(s.OIDs), got)
			}
		}
	}
	if got := Parse("a", api.Stmt{OIDs: []int{}}); len(got.OIDs) != 0 || got.Kind != 'P' || got.Name != "a" {
		t.Errorf("Parse of an empty list is %+v", got)
	}
}

// P19.1: a C of a statement with the name.
func TestClose(t *testing.T) {
	for _, name := range []string{"", "_p1", "_p2147483648", "_dup", "a", "a b", "\x00", "\xff", strings.Repeat("n", 70000)} {
		if got := Close(name); !reflect.DeepEqual(got, api.Front{Kind: 'C', What: 83, Name: name}) {
			t.Errorf("Close(%.20q) is %.100v", name, got)
		}
	}
}

// P19.1: there is room, so nothing is told.
func TestRoomLeft(t *testing.T) {
	for _, c := range []struct {
		spec []int
		most int
	}{
		{nil, 1}, {[]int{}, 1}, {nil, 64}, {nil, math.MaxInt},
		{[]int{1}, 2}, {[]int{2, 1}, 3}, {[]int{1, 2, 3}, 4}, {[]int{1, 2, 3}, 64}, {[]int{1, 2, 3}, math.MaxInt},
		{make([]int, 63), 64}, {make([]int, 4095), 4096},
	} {
		fronts, entries := Room(c.spec, c.most)
		check(t, "Room of "+strconv.Itoa(len(c.spec))+" and "+strconv.Itoa(c.most), fronts, nil, entries, nil)
	}
}

// P19.1: where there is nothing, nothing goes, room or not.
func TestRoomOfNothing(t *testing.T) {
	for _, spec := range [][]int{nil, {}, make([]int, 0, 8)} {
		for _, most := range []int{0, -1, -64, math.MinInt} {
			fronts, entries := Room(spec, most)
			check(t, "Room of nothing and "+strconv.Itoa(most), fronts, nil, entries, nil)
		}
	}
}

// full are lists without room, and the first one's name.
var full = []struct {
	spec []int
	most int
	name string
}{
	{[]int{1}, 1, "_p1"}, {[]int{9}, 1, "_p9"}, {[]int{5, 6}, 2, "_p5"}, {[]int{6, 5}, 2, "_p6"}, {[]int{12, 1, 7}, 3, "_p12"},
	{[]int{3, 2, 1}, 2, "_p3"}, {[]int{2, 3, 1}, 1, "_p2"}, {[]int{4, 5}, 0, "_p4"}, {[]int{4, 5}, -1, "_p4"}, {[]int{5, 4}, math.MinInt, "_p5"},
	{[]int{2147483647}, 1, "_p2147483647"}, {[]int{2147483648, 1}, 2, "_p2147483648"},
	{[]int{0, 1}, 2, ""}, {[]int{-1, 1}, 2, ""}, {[]int{2147483649, 1}, 2, ""}, {[]int{math.MaxInt}, 1, ""},
	{append([]int{77}, make([]int, 63)...), 64, "_p77"},
}

// P19.1: there is no room, so the first one goes, unseen.
func TestRoomFull(t *testing.T) {
	for _, c := range full {
		f, e := closed(c.name, c.spec[0])
		fronts, entries := Room(c.spec, c.most)
		check(t, "Room of "+strconv.Itoa(c.spec[0])+" first", fronts, []api.Front{f}, entries, []api.Entry{e})
	}
}

// P19.1: what is there needs nothing, room or not.
func TestReadyThere(t *testing.T) {
	for _, c := range []struct {
		spec     []int
		most, id int
	}{
		{[]int{1}, 1, 1}, {[]int{5}, 2, 5}, {[]int{1, 2, 3}, 3, 1}, {[]int{1, 2, 3}, 3, 2}, {[]int{1, 2, 3}, 3, 3}, {[]int{1, 2, 3}, 64, 2},
		{[]int{1, 2, 3}, 2, 3}, {[]int{1, 2, 3}, 0, 1}, {[]int{1, 2, 3}, -5, 2}, {[]int{0}, 1, 0}, {[]int{-1, 7}, 1, -1}, {[]int{4, 4}, 1, 4},
	} {
		fronts, entries := Ready(c.spec, c.most, c.id, stmt())
		check(t, "Ready of "+strconv.Itoa(c.id)+", that is there", fronts, nil, entries, nil)
	}
}

// P19.1: where there is room, a statement is just prepared, unseen.
func TestReadyRoom(t *testing.T) {
	for _, c := range []struct {
		spec     []int
		most, id int
		name     string
	}{
		{nil, 1, 1, "_p1"}, {[]int{}, 2, 12, "_p12"}, {[]int{1}, 2, 2, "_p2"}, {[]int{1, 2, 3}, 4, 105, "_p105"}, {[]int{1, 2}, math.MaxInt, 2147483648, "_p2147483648"},
		{nil, 0, 3, "_p3"}, {[]int{}, -1, 3, "_p3"}, {nil, math.MinInt, 3, "_p3"},
		{nil, 1, 0, ""}, {[]int{1}, 2, -1, ""}, {[]int{1}, 2, 2147483649, ""}, {[]int{1}, 2, math.MinInt, ""},
	} {
		f, e := parsed(c.name, c.id)
		fronts, entries := Ready(c.spec, c.most, c.id, stmt())
		check(t, "Ready of "+strconv.Itoa(c.id), fronts, []api.Front{f}, entries, []api.Entry{e})
	}
}

// P19.1: where there is no room, the first one goes ahead.
func TestReadyFull(t *testing.T) {
	for _, c := range full {
		f0, e0 := closed(c.name, c.spec[0])
		f1, e1 := parsed("_p8", 8)
		fronts, entries := Ready(c.spec, c.most, 8, stmt())
		check(t, "Ready of 8, "+strconv.Itoa(c.spec[0])+" first", fronts, []api.Front{f0, f1}, entries, []api.Entry{e0, e1})
	}
}

// P19.1: a statement without a text, and without types, is told as any other.
func TestReadyBare(t *testing.T) {
	for _, s := range []api.Stmt{{}, {OIDs: []int{}}, {Text: "begin"}, {OIDs: []int{7}}} {
		fronts, entries := Ready([]int{1}, 1, 2, s)
		if len(fronts) != 2 || len(entries) != 2 || fronts[1].Kind != 'P' || fronts[1].Name != "_p2" || fronts[1].Text != s.Text || !slices.Equal(fronts[1].OIDs, s.OIDs) {
			t.Errorf("Ready of %v is %+v, %+v", s, fronts, entries)
		}
	}
}

// P19.1: what is handed in stays as it is, its spare room included, and shares nothing with what is answered.
func TestInjectApart(t *testing.T) {
	spec := []int{5, 6, 91, 92, 93}[:2]
	oids := []int{23, 25, 94, 95}[:2]
	s := api.Stmt{Text: "select $1", OIDs: oids}
	fronts, entries := Ready(spec, 2, 7, s)
	again, entriesAgain := Ready(spec, 2, 7, s)
	p := Parse("a", s)
	for i := range fronts {
		for j := range fronts[i].OIDs {
			fronts[i].OIDs[j] = 99
		}
		fronts[i] = api.Front{Kind: 'X'}
		entries[i].Cache[0] = api.CacheOp{Kind: 9, ID: 9}
		entries[i] = api.Entry{}
	}
	p.OIDs[0] = 98
	if !slices.Equal(spec[:5], []int{5, 6, 91, 92, 93}) || !slices.Equal(oids[:4], []int{23, 25, 94, 95}) {
		t.Errorf("handed in is %v, %v", spec[:5], oids[:4])
	}
	oids[0], spec[0] = 97, 96
	f0, e0 := closed("_p5", 5)
	f1, e1 := parsed("_p7", 7)
	check(t, "Ready again", again, []api.Front{f0, f1}, entriesAgain, []api.Entry{e0, e1})
	if p.OIDs[1] != 25 || p.OIDs[0] != 98 {
		t.Errorf("Parse shares its types: %v", p.OIDs)
	}
}

// specs calls each of every list of up to four of the ids 1 to 5, none twice.
func specs(spec []int, each func([]int)) {
	each(spec)
	if len(spec) == 4 {
		return
	}
	for id := 1; id <= 5; id++ {
		if !slices.Contains(spec, id) {
			specs(append(slices.Clone(spec), id), each)
		}
	}
}

// ready tells whether Ready keeps what P19.2 says of these.
func ready(t *testing.T, spec []int, most, id int) {
	t.Helper()
	fronts, entries := Ready(spec, most, id, stmt())
	if len(fronts) > 2 || len(entries) != len(fronts) {
		t.Fatalf("of %v, %d, %d: %d are told, %d are to come", spec, most, id, len(fronts), len(entries))
	}
	will := spec
	for _, e := range entries {
		will = cache.Fold(will, e.Cache)
	}
	if !slices.Contains(will, id) || len(will) > max(len(spec), most) {
		t.Fatalf("of %v, %d, %d: %v will be there", spec, most, id, will)
	}
	fronts, entries = Room(spec, most)
	if len(fronts) > 1 || len(entries) != len(fronts) {
		t.Fatalf("Room of %v, %d: %d are told, %d are to come", spec, most, len(fronts), len(entries))
	}
}

// P19.2: at most two are told; then the statement is there, and there are not more than there were, or may be.
func TestReadyThen(t *testing.T) {
	specs(nil, func(spec []int) {
		for most := 1; most <= 6; most++ {
			for id := 1; id <= 6; id++ {
				ready(t, spec, most, id)
			}
		}
	})
	var spec []int
	for id := 1; id <= 64; id++ {
		spec = append(spec, id)
		for _, most := range []int{1, 63, 64, 65} {
			ready(t, spec, most, 1)
			ready(t, spec, most, 64)
			ready(t, spec, most, 65)
		}
	}
}
