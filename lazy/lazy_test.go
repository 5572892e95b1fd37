package lazy

import (
	"bytes"
	"math"
	"math/rand"
	"slices"
	"strings"
	"sync"
	"testing"

	"remuda/api"
	"remuda/greet"
)

// ids are ids of sessions, and others, that are held.
var ids = []int{0, 1, 2, 7, 255, 256, 7918, 271179, 271180, 271181, 1<<20 - 1, 1 << 20, 1<<20 + 1, 1 << 31, 1<<32 + 1, math.MaxInt, -1, -2, math.MinInt32, math.MinInt}

// lists are lists of params, of which some may not be said.
var lists = [][]api.Pair{
	nil, {}, {{Name: "a", Value: "b"}}, {{}},
	{{Name: "server_version", Value: "16.0"}, {Name: "TimeZone", Value: "UTC"}, {Name: "", Value: "x y"}, {Name: "z", Value: ""}},
	{{Name: "twice", Value: "1"}, {Name: "a", Value: "\xff"}, {Name: "twice", Value: "2"}, {Name: "twice", Value: "2"}},
	{{Name: "a\x00", Value: "b"}, {Name: "c", Value: "d"}, {Name: "e", Value: "\x00"}},
	{{Name: "K\x00", Value: "b"}},
	{{Name: "K", Value: "Z"}, {Name: "long", Value: strings.Repeat("Z", 70000)}},
}

// made answers what New made of params, of which nothing is made yet.
func made(t *testing.T, params []api.Pair) *Greets {
	t.Helper()
	g := New(params)
	if g == nil {
		t.Fatal("New is nil")
	}
	wasMade(t, g, 0)
	return g
}

// wasMade checks how often it was made; twice, since asking makes nothing.
func wasMade(t *testing.T, g *Greets, want int) {
	t.Helper()
	for range 2 {
		if got := g.Made(); got != want {
			t.Fatalf("Made is %d, not %d", got, want)
		}
	}
}

// says checks that Of(id) is what greet says of params and id.
func says(t *testing.T, g *Greets, params []api.Pair, id int) {
	t.Helper()
	if got, want := g.Of(id), greet.Bytes(params, id); !bytes.Equal(got, want) {
		t.Fatalf("Of(%d) is %.80q, not %.80q", id, got, want)
	}
}

// P38.1: Of is what greet says of params and id, whichever is asked first.
func TestOf(t *testing.T) {
	for _, params := range lists {
		g := made(t, params)
		for _, id := range ids {
			says(t, g, params, id)
			wasMade(t, g, 1)
			says(t, made(t, params), params, id)
		}
	}
}

// P38.1: the bytes of one with a parameter, written out.
func TestBytes(t *testing.T) {
	want := "R\x00\x00\x00\x08\x00\x00\x00\x00" + "S\x00\x00\x00\x08a\x00b\x00" + "K\x00\x00\x00\x0c\x00\x00\x00\x03\x00\x00\x5c\xcd" + "Z\x00\x00\x00\x05I"
	if got := New([]api.Pair{{Name: "a", Value: "b"}}).Of(2); string(got) != want {
		t.Fatalf("Of(2) is %q, not %q", got, want)
	}
}

// P38.1: nothing is made by New, however often Made is asked; by the first Of it is, without params, too.
func TestMade(t *testing.T) {
	for _, params := range lists {
		g := made(t, params)
		for range 10 {
			wasMade(t, g, 0)
		}
		g.Of(math.MinInt)
		wasMade(t, g, 1)
	}
}

// P38.1: the chapter's example.
func TestExample(t *testing.T) {
	g := New(nil)
	g.Of(0)
	g.Of(1)
	if got := g.Made(); got != 1 {
		t.Fatalf("Made is %d", got)
	}
}

// P38.1: of what no call made nothing is said, and nothing is made.
func TestNotMade(t *testing.T) {
	for _, g := range []*Greets{nil, {}, new(Greets)} {
		wasMade(t, g, 0)
		for _, id := range ids {
			if got := g.Of(id); len(got) > 0 {
				t.Fatalf("Of(%d) is %q", id, got)
			}
			wasMade(t, g, 0)
		}
	}
}

// P38.1: params are neither kept nor changed, their spare room included.
func TestParamsApart(t *testing.T) {
	params := []api.Pair{{Name: "a", Value: "b"}, {Name: "c", Value: "d"}, {Name: "e", Value: "f"}}
	old := slices.Clone(params)
	early, late := made(t, params[:2]), made(t, params[:2])
	says(t, early, old[:2], 1)
	if !slices.Equal(params, old) {
		t.Fatalf("params are %v now", params)
	}
	clear(params)
	says(t, early, old[:2], 2)
	wasMade(t, late, 0)
	says(t, late, old[:2], 3)
	if !slices.Equal(params, make([]api.Pair, 3)) {
		t.Fatalf("params are %v now", params)
	}
}

// P38.1: what is answered may be changed, its spare room included, and what was answered stays as it is.
func TestAnswersApart(t *testing.T) {
	params := []api.Pair{{Name: "a", Value: "b"}}
	g := made(t, params)
	first, second := g.Of(1), g.Of(1)
	clear(first[:cap(first)])
	if !bytes.Equal(second, greet.Bytes(params, 1)) {
		t.Fatalf("what Of answered is %q now", second)
	}
	says(t, g, params, 1)
	says(t, g, params, 2)
	_ = append(second[:10], "xyz"...)
	says(t, g, params, 1)
	third := g.Of(3)
	g.Of(4)
	if !bytes.Equal(third, greet.Bytes(params, 3)) {
		t.Fatalf("what Of answered is %q now", third)
	}
}

// P38.1: two know nothing of each other.
func TestTwo(t *testing.T) {
	a, b := made(t, lists[2]), made(t, lists[4])
	says(t, a, lists[2], 1)
	wasMade(t, b, 0)
	says(t, b, lists[4], 1)
	says(t, a, lists[2], 2)
	wasMade(t, a, 1)
	wasMade(t, b, 1)
}

// P38.2: however often it is asked, of whichever ids, it is made once.
func TestOften(t *testing.T) {
	rnd := rand.New(rand.NewSource(38))
	for _, params := range lists {
		g := made(t, params)
		for range 100 {
			says(t, g, params, rnd.Intn(1<<21)-1<<19)
			wasMade(t, g, 1)
		}
	}
}

// P38.2: it is made once where many ask at once, too, and each is told all of it.
func TestAtOnce(t *testing.T) {
	params := lists[4]
	for range 50 {
		g := made(t, params)
		var all sync.WaitGroup
		for id := range 16 {
			all.Go(func() {
				if n := g.Made(); n != 0 && n != 1 {
					t.Errorf("Made is %d", n)
				}
				if got := g.Of(id); !bytes.Equal(got, greet.Bytes(params, id)) {
					t.Errorf("Of(%d) is %q", id, got)
				}
				if n := g.Made(); n != 1 {
					t.Errorf("Made is %d behind Of", n)
				}
			})
		}
		all.Wait()
		wasMade(t, g, 1)
	}
}

// P38.2: what hangs on no id is not made again: behind the first Of, many params cost no more than few.
func TestNotAgain(t *testing.T) {
	var params []api.Pair
	for range 2000 {
		params = append(params, api.Pair{Name: "name", Value: "value"})
	}
	g := made(t, params)
	says(t, g, params, 0)
	again := testing.AllocsPerRun(20, func() { g.Of(1) })
	if whole := testing.AllocsPerRun(2, func() { greet.Bytes(params, 1) }); again*10 > whole {
		t.Fatalf("Of takes %v pieces of memory behind the first one, where all of it takes %v", again, whole)
	}
}
