package key

import (
	"math"
	"slices"
	"strings"
	"testing"

	"remuda/api"
)

// mostOID is the highest type.
const mostOID = 1<<32 - 1

type pair struct {
	s   api.Stmt
	key string
}

// right are statements that have a key, no two the same, each with its key.
func right() []pair {
	long := strings.Repeat("x", 1<<20)
	return []pair{
		{api.Stmt{}, "\x00\x00\x00\x00"},
		{api.Stmt{OIDs: []int{0}}, "\x00\x00\x00\x00\x00\x00\x00\x00"},
		{api.Stmt{OIDs: []int{0, 0}}, "\x00\x00\x00\x00\x00\x00\x00\x00\x00\x00\x00\x00"},
		{api.Stmt{Text: "a"}, "\x00\x00\x00\x01a"},
		{api.Stmt{Text: "a", OIDs: []int{23}}, "\x00\x00\x00\x01a\x00\x00\x00\x17"},
		{api.Stmt{Text: "b", OIDs: []int{23}}, "\x00\x00\x00\x01b\x00\x00\x00\x17"},
		{api.Stmt{Text: "a", OIDs: []int{23, 25}}, "\x00\x00\x00\x01a\x00\x00\x00\x17\x00\x00\x00\x19"},
		{api.Stmt{Text: "a", OIDs: []int{25, 23}}, "\x00\x00\x00\x01a\x00\x00\x00\x19\x00\x00\x00\x17"},
		{api.Stmt{Text: "a", OIDs: []int{mostOID, 0, 1 << 31, 258}}, "\x00\x00\x00\x01a\xff\xff\xff\xff\x00\x00\x00\x00\x80\x00\x00\x00\x00\x00\x01\x02"},
		// Texts that have what types, or lengths, look like.
		{api.Stmt{Text: "a\x00\x00\x00\x17"}, "\x00\x00\x00\x05a\x00\x00\x00\x17"},
		{api.Stmt{Text: "\x00\x00\x00\x01a"}, "\x00\x00\x00\x05\x00\x00\x00\x01a"},
		{api.Stmt{Text: "\x00"}, "\x00\x00\x00\x01\x00"},
		{api.Stmt{Text: "\x00\x00\x00\x00"}, "\x00\x00\x00\x04\x00\x00\x00\x00"},
		{api.Stmt{Text: "\xff\xfe"}, "\x00\x00\x00\x02\xff\xfe"},
		{api.Stmt{Text: strings.Repeat("y", 258)}, "\x00\x00\x01\x02" + strings.Repeat("y", 258)},
		// As long as may be.
		{api.Stmt{Text: long}, "\x00\x10\x00\x00" + long},
		{api.Stmt{Text: long[1:]}, "\x00\x0f\xff\xff" + long[1:]},
		{api.Stmt{Text: long, OIDs: []int{1}}, "\x00\x10\x00\x00" + long + "\x00\x00\x00\x01"},
		{api.Stmt{Text: "z", OIDs: slices.Repeat([]int{1}, api.MaxCount)}, "\x00\x00\x00\x01z" + strings.Repeat("\x00\x00\x00\x01", api.MaxCount)},
	}
}

// keyless are statements that have no key.
func keyless() []api.Stmt {
	l := []api.Stmt{
		{Text: strings.Repeat("x", 1<<20+1)},
		{Text: strings.Repeat("x", 1<<21), OIDs: []int{23}},
		{OIDs: make([]int, api.MaxCount+1)},
		{Text: "a", OIDs: make([]int, 1<<17)},
	}
	for _, oid := range []int{math.MinInt, -1 << 31, -2, -1, mostOID + 1, 1 << 33, math.MaxInt} {
		l = append(l, api.Stmt{OIDs: []int{oid}}, api.Stmt{Text: "a", OIDs: []int{oid, 23}}, api.Stmt{Text: "a", OIDs: []int{23, 0, oid}})
	}
	return l
}

// P12.1: Of answers the text's length, the text, and the types.
func TestOf(t *testing.T) {
	for _, c := range right() {
		if k := Of(c.s); k != c.key {
			t.Errorf("Of(%.50q, %.50v) is %.100q, not %.100q", c.s.Text, c.s.OIDs, k, c.key)
		}
	}
	if k := Of(api.Stmt{Text: "a", OIDs: []int{}}); k != "\x00\x00\x00\x01a" {
		t.Errorf("Of with an empty list is %q", k)
	}
}

// P12.1: Of answers "" where text or list is too long, or a type may not be.
func TestOfNone(t *testing.T) {
	for _, s := range keyless() {
		if k := Of(s); k != "" {
			t.Errorf("Of(%.50q, %.50v) is %.100q", s.Text, s.OIDs, k)
		}
	}
}

// P12.1, P12.2: Split of a key is its statement, whose Of is that key.
func TestSplit(t *testing.T) {
	for _, c := range right() {
		s, ok := Split(c.key)
		if !ok || s.Text != c.s.Text || !slices.Equal(s.OIDs, c.s.OIDs) || !Same(s, c.s) {
			t.Errorf("Split(%.100q) is %.50q, %.50v, %v", c.key, s.Text, s.OIDs, ok)
		}
		if k := Of(s); k != c.key {
			t.Errorf("Of of Split(%.100q) is %.100q", c.key, k)
		}
	}
}

// P12.1: Split tells that a text is no key.
func TestSplitNone(t *testing.T) {
	long := strings.Repeat("x", 1<<20+1)
	for _, k := range []string{
		"", "\x00", "\x00\x00", "\x00\x00\x00", "a", "abc",
		// Less than the length says.
		"\x00\x00\x00\x01", "\x00\x00\x00\x02a", "\x00\x00\x00\x05a\x00\x00\x00", "\x7f\xff\xff\xffabc", "\x80\x00\x00\x00abc", "\xff\xff\xff\xffabc", "abcdefgh",
		// Parts of a type behind.
		"\x00\x00\x00\x00\x00", "\x00\x00\x00\x01a1", "\x00\x00\x00\x01a\x00\x00", "\x00\x00\x00\x01a\x00\x00\x00", "\x00\x00\x00\x01a\x00\x00\x00\x17\x00", "\x00\x00\x00\x01a\x00\x00\x00\x17\x00\x00\x00",
		// The length's bytes the other way round.
		"\x01\x00\x00\x00a",
		// More than a statement with a key may have.
		"\x00\x10\x00\x01" + long, "\x00\x10\x00\x01" + long + "\x00\x00\x00\x17",
		"\x00\x00\x00\x00" + strings.Repeat("\x00\x00\x00\x01", api.MaxCount+1), "\x00\x00\x00\x01a" + strings.Repeat("\x00", 1<<19),
	} {
		if s, ok := Split(k); ok || s.Text != "" || len(s.OIDs) != 0 {
			t.Errorf("Split(%.100q) is %.50q, %.50v, %v", k, s.Text, s.OIDs, ok)
		}
	}
}

// P12.1: of all short texts, just those are keys whose length has its text, and whole types behind it.
func TestSplitShort(t *testing.T) {
	var walk func(k string)
	walk = func(k string) {
		s, ok := Split(k)
		if ok && Of(s) != k || !ok && !Same(s, api.Stmt{}) {
			t.Fatalf("Split(%q) is %+v, %v", k, s, ok)
		}
		if ok != isShortKey(k) {
			t.Fatalf("Split(%q) tells %v", k, ok)
		}
		if len(k) < 10 {
			for _, c := range []string{"\x00", "\x01", "\xff"} {
				walk(k + c)
			}
		}
	}
	walk("")
}

// isShortKey tells whether k is a key: a text of more than one byte does not fit in texts that are short.
func isShortKey(k string) bool {
	switch {
	case strings.HasPrefix(k, "\x00\x00\x00\x00"):
		return len(k)%4 == 0
	case strings.HasPrefix(k, "\x00\x00\x00\x01"):
		return len(k)%4 == 1 && len(k) > 4
	}
	return false
}

// P12.1: Same holds just for the same text and the same types in the same order.
func TestSame(t *testing.T) {
	for i, a := range right() {
		for k, b := range right() {
			if Same(a.s, b.s) != (i == k) {
				t.Errorf("Same of the statements %d and %d is %v", i, k, i != k)
			}
		}
	}
	if !Same(api.Stmt{Text: "a"}, api.Stmt{Text: "a", OIDs: []int{}}) || !Same(api.Stmt{OIDs: []int{}}, api.Stmt{}) {
		t.Error("an empty list is not none")
	}
}

// P12.1: Same holds statements without a key against each other field by field, too.
func TestSameNone(t *testing.T) {
	for i, a := range keyless() {
		for k, b := range keyless() {
			if Same(a, b) != (i == k) {
				t.Errorf("Same of the statements %d and %d without a key is %v", i, k, i != k)
			}
		}
		if Same(a, api.Stmt{}) || Same(api.Stmt{}, a) {
			t.Errorf("the statement %d without a key is the empty one", i)
		}
	}
}

// P12.2: two keys are the same just if the statements are.
func TestKeysSame(t *testing.T) {
	list := right()
	for _, text := range []string{"", "\x00", "\x00\x00\x00\x00", "\x00\x00\x00\x01", "\x00\x00\x00\x04", "\x00\x00\x00\x04\x00\x00\x00\x00"} {
		for _, oids := range [][]int{nil, {0}, {1}, {4}, {0, 0}, {4, 0}, {0, 4}, {0, 0, 0}} {
			s := api.Stmt{Text: text, OIDs: oids}
			for _, c := range list {
				if (Of(c.s) == Of(s)) != Same(c.s, s) {
					t.Fatalf("the keys of %+v and of %.50q, %.50v", s, c.s.Text, c.s.OIDs)
				}
			}
			list = append(list, pair{s, Of(s)})
		}
	}
}

// P12.1: what is handed in stays, its spare room included; what is answered may be changed.
func TestApart(t *testing.T) {
	room := []int{23, 25, 7}
	k := Of(api.Stmt{Text: "a", OIDs: room[:2]})
	s, ok := Split(k)
	if !ok || !slices.Equal(room, []int{23, 25, 7}) {
		t.Fatalf("Of left %v", room)
	}
	_ = append(s.OIDs, 9)
	clear(s.OIDs)
	if !slices.Equal(room, []int{23, 25, 7}) || k != "\x00\x00\x00\x01a\x00\x00\x00\x17\x00\x00\x00\x19" {
		t.Fatalf("%v, %q", room, k)
	}
	if again, ok := Split(k); !ok || !slices.Equal(again.OIDs, []int{23, 25}) {
		t.Fatalf("Split is %+v later", again)
	}
}

// types tells the same twice, ends with the bytes, and tells no more to who ends it early.
func TestTypes(t *testing.T) {
	seq := types([]byte("\x00\x00\x00\x17\xff\xff\xff\xff\x00\x00\x00\x00"))
	for range 2 {
		if l := slices.Collect(seq); !slices.Equal(l, []int{23, mostOID, 0}) {
			t.Errorf("types are %v", l)
		}
	}
	times := 0
	for range seq {
		times++
		if times == 2 {
			break
		}
	}
	if times != 2 {
		t.Errorf("%d types were told", times)
	}
	for oid := range types(nil) {
		t.Errorf("no bytes have the type %d", oid)
	}
}
