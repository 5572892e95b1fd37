package entry

import (
	"math"
	"strings"
	"testing"

	"remuda/api"
)

// what are the kinds that there are, and what the chapter says of each: what it takes, what of this ends it well, and whether E fails it.
var what = []struct {
	kind        int
	takes, ends string
	fails       bool
}{
	{api.EntHello, "RSKZEN", "Z", true},
	{api.EntParse, "1NSE", "1", true},
	{api.EntBind, "2NSE", "2", true},
	{api.EntStmt, "tTnNSE", "Tn", true},
	{api.EntPortal, "TnNSE", "Tn", true},
	{api.EntExec, "DCsINSE", "CsI", true},
	{api.EntClose, "3NSE", "3", true},
	{api.EntSync, "ZNS", "Z", false},
	{api.EntQuery, "TDCIEZNS", "Z", false},
	{api.EntSynth, "", "", false},
}

// strangers are kinds that there are not.
func strangers() []int {
	l := []int{0, -1, -2, -10, 11, 12, 13, 20, 256, 257, 265, 1 << 16, 1 << 32, 1<<32 + 1, 1<<32 + 9, math.MinInt, math.MinInt + 1, math.MaxInt}
	for kind := 11; kind < 300; kind++ {
		l = append(l, kind, -kind)
	}
	return l
}

// all are the replies that there can be: every byte.
func all() []byte {
	l := make([]byte, 256)
	for i := range l {
		l[i] = byte(i)
	}
	return l
}

// kinds are all that there are, and such as there are not.
func kinds() []int {
	l := strangers()
	for _, w := range what {
		l = append(l, w.kind)
	}
	return l
}

// P20.1: what each kind takes, of all replies that may be.
func TestTakes(t *testing.T) {
	for _, w := range what {
		for _, reply := range all() {
			want := strings.IndexByte(w.takes, reply) >= 0
			if got := Takes(w.kind, reply); got != want {
				t.Errorf("Takes(%d, %q) is %v", w.kind, reply, got)
			}
		}
	}
}

// P20.1: what ends each kind well, of all replies that may be.
func TestEnds(t *testing.T) {
	for _, w := range what {
		for _, reply := range all() {
			want := strings.IndexByte(w.ends, reply) >= 0
			if got := Ends(w.kind, reply); got != want {
				t.Errorf("Ends(%d, %q) is %v", w.kind, reply, got)
			}
		}
	}
}

// P20.1: E alone fails, and not each kind.
func TestFails(t *testing.T) {
	for _, w := range what {
		for _, reply := range all() {
			want := w.fails && reply == 'E'
			if got := Fails(w.kind, reply); got != want {
				t.Errorf("Fails(%d, %q) is %v", w.kind, reply, got)
			}
		}
	}
}

// P20.1: kinds that there are not take nothing.
func TestStrangers(t *testing.T) {
	for _, kind := range strangers() {
		for _, reply := range all() {
			if Takes(kind, reply) || Ends(kind, reply) || Fails(kind, reply) {
				t.Fatalf("of the kind %d and %q: %v, %v, %v", kind, reply, Takes(kind, reply), Ends(kind, reply), Fails(kind, reply))
			}
		}
	}
}

// fronts are messages of this kind, with and without much else.
func fronts(kind, of byte) []api.Front {
	return []api.Front{
		{Kind: kind, What: of},
		{Kind: kind, What: of, Name: "a", Portal: "p", Text: "select 1", OIDs: []int{1}, Formats: []int{1}, Results: []int{1}, Params: []api.Cell{{}}, Max: 7},
		{Kind: kind, What: of, Name: "\x00", OIDs: []int{-1}, Max: -1},
	}
}

// P20.2: the kind of the entry that a message has, whatever else the message says.
func TestKind(t *testing.T) {
	right := map[byte]int{'P': api.EntParse, 'B': api.EntBind, 'E': api.EntExec, 'C': api.EntClose, 'S': api.EntSync, 'Q': api.EntQuery}
	for _, kind := range all() {
		for _, of := range all() {
			want := right[kind]
			if kind == 'D' && of == 83 {
				want = api.EntStmt
			}
			if kind == 'D' && of == 80 {
				want = api.EntPortal
			}
			for _, f := range fronts(kind, of) {
				if got := Kind(f); got != want {
					t.Fatalf("Kind(%+v) is %d, not %d", f, got, want)
				}
			}
		}
	}
}

// P20.2: messages of which there is no entry have none, whatever they speak of.
func TestKindNone(t *testing.T) {
	for _, f := range []api.Front{
		{}, {What: 'S'}, {Kind: 'H'}, {Kind: 'X'}, {Kind: 'D'}, {Kind: 'D', What: 's'}, {Kind: 'D', What: 'p'}, {Kind: 'D', What: 'D'}, {Kind: 'p'}, {Kind: 'F'}, {Kind: 'q'}, {Kind: 's', What: 'S'}, {Kind: '1'},
	} {
		if got := Kind(f); got != 0 {
			t.Errorf("Kind(%+v) is %d", f, got)
		}
	}
}

// P20.3: what ends, or fails, is taken, and nothing does both.
func TestEndsTaken(t *testing.T) {
	for _, kind := range kinds() {
		for _, reply := range all() {
			takes, ends, fails := Takes(kind, reply), Ends(kind, reply), Fails(kind, reply)
			if (ends || fails) && !takes || ends && fails {
				t.Fatalf("of the kind %d and %q: %v, %v, %v", kind, reply, takes, ends, fails)
			}
		}
	}
}

// P20.2, P20.3: what is of a message can be ended, and nothing but a sync and a query goes on behind a fault.
func TestKindEnds(t *testing.T) {
	for _, f := range []api.Front{{Kind: 'P'}, {Kind: 'B'}, {Kind: 'D', What: 'S'}, {Kind: 'D', What: 'P'}, {Kind: 'E'}, {Kind: 'C'}, {Kind: 'S'}, {Kind: 'Q'}} {
		kind, ended := Kind(f), 0
		for _, reply := range all() {
			if Ends(kind, reply) {
				ended++
			}
		}
		if ended == 0 || Fails(kind, 'E') != (f.Kind != 'S' && f.Kind != 'Q') {
			t.Errorf("of %c: %d end it, Fails is %v", f.Kind, ended, Fails(kind, 'E'))
		}
	}
}
