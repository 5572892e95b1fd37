package engine

import (
	"math"
	"slices"
	"strconv"
	"strings"
	"sync"
	"testing"

	"remuda/api"
	"remuda/cols"
	"remuda/wire"
)

// What the faults say, as the chapter has it.
const (
	syntax   = "syntax error"
	aborted  = "current transaction is aborted, commands ignored until end of transaction block"
	relation = "relation does not exist"
)

// What texts say: nothing that is known, nothing, the end of a transaction, or something else.
const (
	bad = iota
	empty
	exit
	other
)

// texts are some of each sort.
func texts() map[string]int {
	return map[string]int{
		"nonsense": bad, "begin;": bad, "select 100": bad, "fail 2201": bad, "COMMIT": bad, "\x00": bad, "\xff": bad, "\tcommit": bad, "select": bad,
		strings.Repeat("x", 1<<16): bad,
		"":                         empty, " ": empty, "     ": empty,
		"commit": exit, "rollback": exit, " commit": exit, "rollback  ": exit,
		"begin": other, " begin ": other, "select 0": other, "select 99": other, "echo": other, "next": other, "fail 22012": other, "fail 42P01": other,
	}
}

// statuses are those that sessions have, and some that none has.
func statuses() []byte {
	return []byte{'I', 'T', 'E', 'e', 0, 1, 68, 70, 69 + 128, 255}
}

// verdict checks what e says of text; a code of "" is none.
func verdict(t *testing.T, e *Engine, text string, status byte, code, says string) {
	t.Helper()
	gotCode, gotSays, no := e.Verdict(text, status)
	if gotCode != code || gotSays != says || no != (code != "") {
		t.Fatalf("Verdict(%.50q, %d) is %q, %q, %v, not %q, %q", text, status, gotCode, gotSays, no, code, says)
	}
}

// turn checks that e refuses text from now on, or no more.
func turn(t *testing.T, e *Engine, text string, want bool) {
	t.Helper()
	if got := e.Turn(text); got != want {
		t.Fatalf("Turn(%.50q) is %v", text, got)
	}
}

// expected is what is said of a text of that sort, in a session of that status, if it is refused or not.
func expected(sort int, status byte, refused bool) (string, string) {
	switch {
	case sort == bad:
		return "42601", syntax
	case status == 69 && sort != exit:
		return "25P02", aborted
	case refused && sort == other:
		return "42P01", relation
	}
	return "", ""
}

// P27.1: Aborted is this text.
func TestAborted(t *testing.T) {
	if Aborted() != aborted {
		t.Errorf("Aborted is %q", Aborted())
	}
}

// P27.1: a new engine refuses what says nothing that is known, and with status 69 all but an Exit; it lets all else be.
func TestVerdict(t *testing.T) {
	e := New()
	for text, sort := range texts() {
		for n := range 256 {
			code, says := expected(sort, byte(n), false)
			verdict(t, e, text, byte(n), code, says)
		}
	}
}

// P27.1: the chapter's example, and one for each fault, written out.
func TestVerdictWritten(t *testing.T) {
	e := New()
	for _, text := range []string{"select 1", "", "commit"} {
		turn(t, e, text, true)
	}
	verdict(t, e, "nonsense", 73, "42601", syntax)
	verdict(t, e, "nonsense", 'E', "42601", syntax)
	verdict(t, e, "select 1", 'E', "25P02", aborted)
	verdict(t, e, "", 'E', "25P02", aborted)
	verdict(t, e, "commit", 'E', "", "")
	verdict(t, e, "rollback", 'E', "", "")
	verdict(t, e, "select 1", 'I', "42P01", relation)
	verdict(t, e, "select 1", 'T', "42P01", relation)
	verdict(t, e, "select 2", 'T', "", "")
	verdict(t, e, "commit", 'T', "", "")
	verdict(t, e, "", 'I', "", "")
}

// P27.1: a text that is refused is so in each status, unless another fault stands ahead, or it is empty, or an Exit; others are not touched.
func TestVerdictRefused(t *testing.T) {
	for refused := range texts() {
		e := New()
		turn(t, e, refused, true)
		for text, sort := range texts() {
			for _, status := range statuses() {
				code, says := expected(sort, status, text == refused)
				verdict(t, e, text, status, code, says)
			}
		}
	}
}

// P27.1: each Turn of a text turns that text alone, byte by byte.
func TestTurn(t *testing.T) {
	e := New()
	for range 3 {
		for text := range texts() {
			turn(t, e, text, true)
		}
		verdict(t, e, "begin", 'I', "42P01", relation)
		for text := range texts() {
			turn(t, e, text, false)
		}
		verdict(t, e, "begin", 'I', "", "")
	}
	turn(t, e, "begin", true)
	for _, text := range []string{" begin", "begin ", "select 0", "echo"} {
		verdict(t, e, text, 'I', "", "")
	}
	turn(t, e, " begin", true)
	turn(t, e, "begin", false)
	verdict(t, e, "begin", 'I', "", "")
	verdict(t, e, " begin", 'I', "42P01", relation)
}

// P27.1: a verdict turns nothing, and asks nothing.
func TestVerdictChangesNothing(t *testing.T) {
	e := New()
	turn(t, e, "next", true)
	for range 3 {
		verdict(t, e, "next", 'I', "42P01", relation)
		verdict(t, e, "begin", 'I', "", "")
		verdict(t, e, "x", 'I', "42601", syntax)
	}
	if e.Count() != 0 {
		t.Errorf("Count is %d", e.Count())
	}
	turn(t, e, "begin", true)
	turn(t, e, "next", false)
}

// P27.1: a text that is refused is not a piece of what was handed in.
func TestTurnApart(t *testing.T) {
	e := New()
	long := []byte("select 1select 2")
	turn(t, e, string(long[:8]), true)
	copy(long, "xxxxxxxx")
	verdict(t, e, "select 1", 'I', "42P01", relation)
	verdict(t, e, "select 2", 'I', "", "")
}

// P27.1, P27.3: Next is 1 at first, and then one more each time; Count is as many, and asks nothing.
func TestNext(t *testing.T) {
	e := New()
	for n := range 3000 {
		for range 2 {
			if e.Count() != n {
				t.Fatalf("Count is %d, not %d", e.Count(), n)
			}
		}
		if got := e.Next(); got != n+1 {
			t.Fatalf("Next is %d, not %d", got, n+1)
		}
		e.Turn("next")
	}
}

// P27.1, P27.3: each number is given once, whoever asks at the same time.
func TestNextTogether(t *testing.T) {
	const askers, each = 8, 2000
	e := New()
	got := make([][]int, askers)
	var all sync.WaitGroup
	for i := range askers {
		all.Go(func() {
			for range each {
				got[i] = append(got[i], e.Next())
			}
		})
	}
	all.Wait()
	numbers := slices.Concat(got...)
	slices.Sort(numbers)
	for i, n := range numbers {
		if n != i+1 {
			t.Fatalf("the %d-th number is %d", i+1, n)
		}
	}
	if e.Count() != askers*each {
		t.Errorf("Count is %d", e.Count())
	}
}

// P27.1: what one engine refuses, and was asked, is nothing to another one.
func TestTwoEngines(t *testing.T) {
	a, b := New(), New()
	turn(t, a, "begin", true)
	a.Next()
	a.Next()
	verdict(t, b, "begin", 'I', "", "")
	if b.Count() != 0 || b.Next() != 1 || a.Count() != 2 {
		t.Errorf("Count is %d of one, %d of the other", a.Count(), b.Count())
	}
	turn(t, b, "begin", true)
	turn(t, b, "begin", false)
	verdict(t, a, "begin", 'I', "42P01", relation)
}

// sameRows tells whether two lists of rows are alike.
func sameRows(a, b [][]api.Cell) bool { return slices.EqualFunc(a, b, wire.SameCells) }

// rows checks what e answers of v.
func rows(t *testing.T, e *Engine, v api.Verb, params []api.Cell, want [][]api.Cell) {
	t.Helper()
	if got := e.Rows(v, params); !sameRows(got, want) {
		t.Fatalf("Rows of %+v with %v is %v, not %v", v, params, got, want)
	}
}

// cells are some of each sort: with bytes, without, none, and one that may not be said.
func cells() []api.Cell {
	return []api.Cell{{Bytes: []byte("ab")}, {}, {Bytes: []byte{}}, {Null: true}, {Bytes: []byte{0, 255}}, {Null: true, Bytes: []byte("x")}, {Bytes: []byte(strings.Repeat("long", 20))}}
}

// P27.2: VerbSelect has as many rows as N, held as cols.Rows has it.
func TestRowsSelect(t *testing.T) {
	e := New()
	for _, n := range []int{0, 1, 2, 10, 99, 100, 999, 1000, 1001, -1, math.MinInt, math.MaxInt} {
		v := api.Verb{Kind: api.VerbSelect, N: n}
		rows(t, e, v, nil, cols.Rows(n))
		rows(t, e, v, cells(), cols.Rows(n))
		v.Code = "22012"
		rows(t, e, v, nil, cols.Rows(n))
	}
	got := e.Rows(api.Verb{Kind: api.VerbSelect, N: 2}, cells())
	if len(got) != 2 || len(got[0]) != 1 || string(got[0][0].Bytes) != "1" || len(got[1]) != 1 || string(got[1][0].Bytes) != "2" {
		t.Errorf("two rows are %v", got)
	}
}

// P27.2: VerbEcho has one row: the parameters as they are, none too, and many.
func TestRowsEcho(t *testing.T) {
	e := New()
	for _, v := range []api.Verb{{Kind: api.VerbEcho}, {Kind: api.VerbEcho, N: 5, Code: "22012"}} {
		for n := range len(cells()) + 1 {
			rows(t, e, v, cells()[:n], [][]api.Cell{cells()[:n]})
		}
		rows(t, e, v, nil, [][]api.Cell{{}})
		many := slices.Repeat(cells(), 300)
		rows(t, e, v, many, [][]api.Cell{many})
	}
}

// P27.2, P27.3: VerbNext has one row of one cell: how often the engine was asked, this time, too.
func TestRowsNext(t *testing.T) {
	e := New()
	for n := 1; n <= 1200; n++ {
		rows(t, e, api.Verb{Kind: api.VerbNext, N: n % 3}, cells()[:n%4], [][]api.Cell{{{Bytes: []byte(strconv.Itoa(n))}}})
		if e.Count() != n {
			t.Fatalf("Count is %d, not %d", e.Count(), n)
		}
	}
	if got := e.Next(); got != 1201 {
		t.Errorf("Next is %d behind 1200 rows", got)
	}
	rows(t, e, api.Verb{Kind: api.VerbNext}, nil, [][]api.Cell{{{Bytes: []byte("1202")}}})
}

// P27.2: other verbs have no rows; only VerbNext asks the engine, and rows hang on no text that is refused.
func TestRowsOther(t *testing.T) {
	e := New()
	for _, text := range []string{"echo", "next", "select 3", ""} {
		turn(t, e, text, true)
	}
	kinds := []int{math.MinInt, -1, math.MaxInt, 1 << 32, 256 + api.VerbSelect, 1<<32 + api.VerbNext}
	for kind := range api.VerbFail + 3 {
		if kind != api.VerbSelect && kind != api.VerbEcho && kind != api.VerbNext {
			kinds = append(kinds, kind)
		}
	}
	for _, kind := range kinds {
		rows(t, e, api.Verb{Kind: kind, N: 3, Code: "22012"}, cells(), nil)
	}
	rows(t, e, api.Verb{Kind: api.VerbSelect, N: 3}, nil, cols.Rows(3))
	rows(t, e, api.Verb{Kind: api.VerbEcho}, cells(), [][]api.Cell{cells()})
	if e.Count() != 0 {
		t.Errorf("Count is %d", e.Count())
	}
}

// P27.2: parameters stay as they are, their spare room included, and share nothing with the row that they become.
func TestRowsApart(t *testing.T) {
	e := New()
	params := cells()
	params[0].Bytes = params[0].Bytes[:1]
	got := e.Rows(api.Verb{Kind: api.VerbEcho}, params[:2])
	_ = append(got[0], api.Cell{Null: true})
	for i := range got[0] {
		_ = append(got[0][i].Bytes, 'y')
		for k := range got[0][i].Bytes {
			got[0][i].Bytes[k] = 'z'
		}
		got[0][i] = api.Cell{Null: true}
	}
	params[0].Bytes = params[0].Bytes[:2]
	if !wire.SameCells(params, cells()) {
		t.Errorf("the parameters are %v now", params)
	}
	got = e.Rows(api.Verb{Kind: api.VerbEcho}, params)
	params[0].Bytes[0] = 'q'
	params[1] = api.Cell{Null: true}
	if !sameRows(got, [][]api.Cell{cells()}) {
		t.Errorf("the row is %v later", got)
	}
}

// P27.2: what is answered may be changed: later answers do not see it.
func TestRowsAgain(t *testing.T) {
	e := New()
	for _, v := range []api.Verb{{Kind: api.VerbSelect, N: 3}, {Kind: api.VerbNext}} {
		got := e.Rows(v, nil)
		_ = append(got[0], api.Cell{Null: true})
		got[0][0].Bytes[0] = 'z'
		got[0][0] = api.Cell{Null: true}
	}
	rows(t, e, api.Verb{Kind: api.VerbSelect, N: 3}, nil, cols.Rows(3))
	rows(t, e, api.Verb{Kind: api.VerbNext}, nil, [][]api.Cell{{{Bytes: []byte("2")}}})
}

// P27.2: what no call made refuses nothing, was never asked, and has no rows, whatever it is told.
func TestNotMade(t *testing.T) {
	for _, e := range []*Engine{nil, {}, new(Engine)} {
		for range 2 {
			for text := range texts() {
				turn(t, e, text, false)
				for _, status := range statuses() {
					verdict(t, e, text, status, "", "")
				}
			}
			if next, count := e.Next(), e.Count(); next != 0 || count != 0 {
				t.Fatalf("Next is %d, Count is %d", next, count)
			}
			for kind := range api.VerbFail + 3 {
				rows(t, e, api.Verb{Kind: kind, N: 3}, cells(), nil)
			}
		}
	}
}

// P27.1, P27.2, P27.3: whatever is called in whatever order, the engine refuses what was turned an odd number of times, and counts what it was asked.
func TestScripts(t *testing.T) {
	sorts := texts()
	var list []string
	for text := range sorts {
		list = append(list, text)
	}
	slices.Sort(list)
	for seed := range uint32(50) {
		state := seed
		next := func(n int) int {
			state = state*1664525 + 1013904223
			return int(state>>16) % n
		}
		e, turns, asked := New(), map[string]int{}, 0
		for range 300 {
			text := list[next(len(list))]
			switch next(4) {
			case 0:
				turns[text]++
				turn(t, e, text, turns[text]%2 == 1)
			case 1:
				asked++
				if got := e.Next(); got != asked {
					t.Fatalf("Next is %d, not %d", got, asked)
				}
			case 2:
				asked++
				rows(t, e, api.Verb{Kind: api.VerbNext}, nil, [][]api.Cell{{{Bytes: []byte(strconv.Itoa(asked))}}})
			default:
				status := statuses()[next(len(statuses()))]
				code, says := expected(sorts[text], status, turns[text]%2 == 1)
				verdict(t, e, text, status, code, says)
			}
			if e.Count() != asked {
				t.Fatalf("Count is %d, not %d", e.Count(), asked)
			}
		}
	}
}
