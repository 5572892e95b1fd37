package greet

import (
	"bytes"
	"math"
	"slices"
	"strings"
	"testing"

	"remuda/api"
	"remuda/back"
)

// held are ids, each with its two keys.
var held = [][3]int{
	{0, 1, 7919}, {1, 2, 15838}, {2, 3, 23757}, {7, 8, 63352}, {15, 16, 126704}, {7918, 7919, 62710561},
	// From 271181 on the second one goes round.
	{271179, 271180, 2147474420}, {271180, 271181, 2147482339}, {271181, 271182, 6610}, {542362, 542363, 5301},
	{1<<20 - 1, 1 << 20, 1861222400}, {1 << 20, 1<<20 + 1, 1861230319},
	// Others are held.
	{math.MinInt, 1, 7919}, {-1 << 31, 1, 7919}, {-2, 1, 7919}, {-1, 1, 7919},
	{1<<20 + 1, 1<<20 + 1, 1861230319}, {1<<31 - 1, 1<<20 + 1, 1861230319}, {1 << 31, 1<<20 + 1, 1861230319}, {math.MaxInt, 1<<20 + 1, 1861230319},
}

// lists are parameters that may be said.
var lists = [][]api.Pair{
	nil, {}, {{Name: "a", Value: "b"}}, {{}},
	{{Name: "server_version", Value: "16.0"}, {Name: "TimeZone", Value: "UTC"}, {Name: "", Value: "x y"}, {Name: "z", Value: ""}},
	{{Name: "twice", Value: "1"}, {Name: "a", Value: "\xff"}, {Name: "twice", Value: "2"}, {Name: "twice", Value: "2"}},
}

// dirty are parameters some of which may not be said.
var dirty = []api.Pair{{Name: "a\x00", Value: "b"}, {Name: "c", Value: "d"}, {Name: "e", Value: "\x00"}}

// P11.1: Keys answers id and 1, and that 7919 times, round 2^31; id is held from 0 to 2^20.
func TestKeys(t *testing.T) {
	for _, h := range held {
		if n, m := Keys(h[0]); n != h[1] || m != h[2] {
			t.Errorf("Keys(%d) is %d, %d, not %d, %d", h[0], n, m, h[1], h[2])
		}
	}
}

// P11.1: both keys are what the sentence says, for ids all over the bounds.
func TestKeysAll(t *testing.T) {
	for id := 0; id <= 1<<20; id += 1021 {
		n, m := Keys(id)
		if n != id+1 || m != (id+1)*7919%(1<<31) || m < 0 {
			t.Fatalf("Keys(%d) is %d, %d", id, n, m)
		}
	}
}

// want is what the sentence says of params and of the keys n and m.
func want(params []api.Pair, n, m int) []api.Back {
	l := []api.Back{{Kind: 82}}
	for _, p := range params {
		l = append(l, api.Back{Kind: 83, Name: p.Name, Value: p.Value})
	}
	return append(l, api.Back{Kind: 75, N: n, M: m}, api.Back{Kind: 90, Status: 73})
}

// P11.1: Backs answers R, an S of each parameter, in their order, K with Keys, and Z.
func TestBacks(t *testing.T) {
	for _, params := range lists {
		for _, h := range held {
			if l := Backs(params, h[0]); !slices.EqualFunc(l, want(params, h[1], h[2]), back.Same) {
				t.Errorf("Backs(%q, %d) is %+v", params, h[0], l)
			}
		}
	}
}

// P11.1: each of these may be said.
func TestBacksRight(t *testing.T) {
	for _, params := range lists {
		for _, h := range held {
			for _, b := range Backs(params, h[0]) {
				if e := back.Check(b); e != api.OK {
					t.Errorf("Check of %+v is %d", b, e)
				}
			}
		}
	}
}

// P11.1: Bytes answers their bytes.
func TestBytes(t *testing.T) {
	for _, c := range []struct {
		params []api.Pair
		id     int
		want   string
	}{
		{nil, 0, "R\x00\x00\x00\x08\x00\x00\x00\x00" + "K\x00\x00\x00\x0c\x00\x00\x00\x01\x00\x00\x1e\xef" + "Z\x00\x00\x00\x05I"},
		{[]api.Pair{{Name: "a", Value: "b"}, {Name: "", Value: "cd"}}, 1 << 20,
			"R\x00\x00\x00\x08\x00\x00\x00\x00" + "S\x00\x00\x00\x08a\x00b\x00" + "S\x00\x00\x00\x08\x00cd\x00" +
				"K\x00\x00\x00\x0c\x00\x10\x00\x01\x6e\xf0\x1e\xef" + "Z\x00\x00\x00\x05I"},
	} {
		if b := Bytes(c.params, c.id); string(b) != c.want {
			t.Errorf("Bytes(%q, %d) is %q, not %q", c.params, c.id, b, c.want)
		}
	}
	for _, params := range lists {
		for _, h := range held {
			if b := Bytes(params, h[0]); !bytes.Equal(b, back.Bytes(want(params, h[1], h[2])...)) {
				t.Errorf("Bytes(%q, %d) is %q", params, h[0], b)
			}
		}
	}
}

// P11.1: a parameter that may not be said is among Backs, and has no bytes; the others have theirs.
func TestDirty(t *testing.T) {
	if l := Backs(dirty, 3); !slices.EqualFunc(l, want(dirty, 4, 31676), back.Same) {
		t.Errorf("Backs is %+v", l)
	}
	if b := Bytes(dirty, 3); !bytes.Equal(b, Bytes(dirty[1:2], 3)) || !bytes.Contains(b, []byte("c\x00d\x00")) {
		t.Errorf("Bytes is %q", b)
	}
}

// P11.1: many parameters, and long ones, are said all.
func TestMany(t *testing.T) {
	params := slices.Repeat([]api.Pair{{Name: "n", Value: strings.Repeat("v", 70)}}, api.MaxCount+1)
	params[0].Value = strings.Repeat("long", 1<<18)
	if l := Backs(params, 0); !slices.EqualFunc(l, want(params, 1, 7919), back.Same) {
		t.Errorf("Backs of many has %d", len(l))
	}
	// Each S has its type, its length, and a byte 0 behind each text; R, K and Z have 9, 13 and 6 bytes.
	size := 28 + len(params)*(5+2+1+70) + 1<<20 - 70
	if b := Bytes(params, 0); len(b) != size {
		t.Errorf("Bytes of many has %d, not %d", len(b), size)
	}
}

// P11.2: what is said ends with a Z, and has no other.
func TestEnd(t *testing.T) {
	for _, params := range append(slices.Clone(lists), dirty) {
		for _, h := range held {
			l := Backs(params, h[0])
			if at := slices.IndexFunc(l, func(b api.Back) bool { return b.Kind == 'Z' }); at != len(l)-1 {
				t.Errorf("Backs(%q, %d) has a Z at %d of %d", params, h[0], at, len(l))
			}
			if b := Bytes(params, h[0]); !bytes.HasSuffix(b, []byte{90, 0, 0, 0, 5, 73}) {
				t.Errorf("Bytes(%q, %d) ends otherwise: %q", params, h[0], b)
			}
		}
	}
}

// P11.1: what is handed in stays, its spare room included; what is answered may be changed, and later answers do not see it.
func TestApart(t *testing.T) {
	room := slices.Clone(lists[4])
	for range 2 {
		l := Backs(room[:2], 5)
		if !slices.EqualFunc(l, want(lists[4][:2], 6, 47514), back.Same) {
			t.Fatalf("Backs is %+v", l)
		}
		_ = append(l, api.Back{Kind: 'E'})
		clear(l)
		b := Bytes(room[:2], 5)
		if !bytes.Equal(b, back.Bytes(want(lists[4][:2], 6, 47514)...)) {
			t.Fatalf("Bytes is %q", b)
		}
		_ = append(b, 1)
		clear(b)
	}
	if !slices.Equal(room, lists[4]) {
		t.Errorf("the parameters are %q later", room)
	}
}
