package sess

import (
	"slices"
	"strconv"
	"strings"
	"testing"

	"remuda/api"
	"remuda/back"
	"remuda/cols"
	"remuda/engine"
	"remuda/fault"
)

// What is said of names, and of what was done, as the chapters have it.
const (
	aborted = "E 25P02 current transaction is aborted, commands ignored until end of transaction block"
	purpose = "E 22012 failed on purpose"
	noA     = `E 26000 prepared statement "a" does not exist`
	noX     = `E 34000 portal "x" does not exist`
	hasA    = `E 42P05 prepared statement "a" already exists`
	hasX    = `E 42P03 cursor "x" already exists`
	ranTwo  = "E 55000 portal cannot be run"
	syntax  = "E 42601 syntax error"
	refused = "E 42P01 relation does not exist"
)

// Messages that are of no more than their kind.
var (
	sync  = api.Front{Kind: 'S'}
	flush = api.Front{Kind: 'H'}
	end   = api.Front{Kind: 'X'}
)

// parse prepares a statement.
func parse(name, text string, oids ...int) api.Front {
	return api.Front{Kind: 'P', Name: name, Text: text, OIDs: oids}
}

// bind makes a portal of a statement.
func bind(portal, name string, params ...string) api.Front {
	f := api.Front{Kind: 'B', Portal: portal, Name: name}
	for _, p := range params {
		f.Params = append(f.Params, api.Cell{Bytes: []byte(p)})
	}
	return f
}

// execute runs a portal.
func execute(portal string, most int) api.Front {
	return api.Front{Kind: 'E', Portal: portal, Max: most}
}

// query does a text at once.
func query(text string) api.Front {
	return api.Front{Kind: 'Q', Text: text}
}

// ofStmt and ofPortal are a C, or a D, of a statement, and of a portal.
func ofStmt(kind byte, name string) api.Front {
	return api.Front{Kind: kind, What: 'S', Name: name}
}

func ofPortal(kind byte, name string) api.Front {
	return api.Front{Kind: kind, What: 'P', Portal: name}
}

// cells writes a row: its cells, or null.
func cells(row []api.Cell) string {
	var l []string
	for _, c := range row {
		if c.Null {
			l = append(l, "null")
			continue
		}
		l = append(l, string(c.Bytes))
	}
	return strings.Join(l, ",")
}

// written is a message as these tests have it: its kind, and what it says.
func written(b api.Back) string {
	kind := string([]byte{b.Kind})
	switch b.Kind {
	case 'Z':
		return kind + " " + string([]byte{b.Status})
	case 'C':
		return kind + " " + b.Tag
	case 'D':
		return kind + " " + cells(b.Row)
	case 'T':
		return kind + " " + strconv.Itoa(len(b.Cols))
	case 't':
		var l []string
		for _, oid := range b.OIDs {
			l = append(l, strconv.Itoa(oid))
		}
		return kind + " " + strings.Join(l, ",")
	case 'E':
		code, _ := fault.Get(b.Fields, 'C')
		text, _ := fault.Get(b.Fields, 'M')
		return kind + " " + code + " " + text
	}
	return kind
}

// right tells whether a message says no more than written has of it.
func right(b api.Back) bool {
	switch b.Kind {
	case 'T':
		return back.Same(b, api.Back{Kind: 'T', Cols: cols.Cols(len(b.Cols))})
	case 'E':
		code, _ := fault.Get(b.Fields, 'C')
		text, _ := fault.Get(b.Fields, 'M')
		return back.Same(b, fault.Error(code, text))
	}
	return back.Check(b) == api.OK
}

// do checks what is said of a message.
func do(t *testing.T, s *Session, f api.Front, want ...string) {
	t.Helper()
	var got []string
	for _, b := range s.Do(f) {
		if !right(b) {
			t.Fatalf("of %v %v is said", f, b)
		}
		got = append(got, written(b))
	}
	if !slices.Equal(got, want) {
		t.Fatalf("of %v %q is said, not %q", f, got, want)
	}
}

// stands checks what a session tells of itself.
func stands(t *testing.T, s *Session, status byte, skips bool, names ...string) {
	t.Helper()
	if s.Status() != status || s.Skips() != skips || !slices.Equal(s.Names(), names) || s.Over() {
		t.Fatalf("the session has %d, %v, %q, %v, not %d, %v, %q", s.Status(), s.Skips(), s.Names(), s.Over(), status, skips, names)
	}
}

// with answers a session in which these messages were done, all of them well.
func with(t *testing.T, l ...api.Front) *Session {
	t.Helper()
	s := New(engine.New())
	for _, f := range l {
		s.Do(f)
		if s.Skips() {
			t.Fatalf("%v is a fault", f)
		}
	}
	return s
}

// failed answers a session whose transaction has failed, with the statements a (select 3), c (commit), r (rollback) and e (nothing).
func failed(t *testing.T) *Session {
	t.Helper()
	s := with(t, parse("a", "select 3"), parse("c", "commit"), parse("r", "rollback"), parse("e", ""), query("begin"))
	do(t, s, query("fail 22012"), purpose, "Z E")
	stands(t, s, 69, false, "a", "c", "e", "r")
	return s
}

// everything are messages of every sort, also such as may not be.
func everything() []api.Front {
	return []api.Front{
		parse("a", "select 3"), parse("", "begin"), parse("b", "nonsense"), parse("b", "echo", 23, 25),
		bind("", "a"), bind("x", "a"), bind("x", "b", "1", "2"), bind("x", "none"),
		ofStmt('D', "a"), ofPortal('D', "x"), {Kind: 'D'}, ofStmt('C', "a"), ofPortal('C', "x"), {Kind: 'C', What: 'x'},
		execute("", 0), execute("x", -1), execute("x", 2),
		query("begin"), query(""), query("nonsense"), query("fail 22012"), flush,
		{}, {Kind: 'F'}, {Kind: 'd'}, {Kind: 'p'}, {Kind: '1'}, {Kind: 'Z'}, {Kind: 255},
	}
}

// P30.1: a session has status 73, no statements and no portals.
func TestNewSession(t *testing.T) {
	s := New(engine.New())
	stands(t, s, 73, false)
	do(t, s, ofStmt('D', "a"), noA)
	do(t, s, sync, "Z I")
	do(t, s, ofStmt('D', ""), "E 26000 unnamed prepared statement does not exist")
	do(t, s, sync, "Z I")
	do(t, s, ofPortal('D', "x"), noX)
	do(t, s, sync, "Z I")
	do(t, s, ofPortal('D', ""), `E 34000 portal "" does not exist`)
	do(t, s, sync, "Z I")
	stands(t, s, 73, false)
}

// P30.2: the chapter's example, and a longer script, written out.
func TestExamples(t *testing.T) {
	s := New(engine.New())
	do(t, s, parse("a", "begin"), "1")
	do(t, s, bind("", "a"), "2")
	do(t, s, execute("", 0), "C BEGIN")
	do(t, s, sync, "Z T")
	stands(t, s, 84, false, "a")
	do(t, s, parse("", "select 2"), "1")
	do(t, s, bind("x", ""), "2")
	do(t, s, ofPortal('D', "x"), "T 1")
	do(t, s, execute("x", 1), "D 1", "s")
	do(t, s, sync, "Z T")
	do(t, s, execute("x", 1), "D 2", "C SELECT 1")
	do(t, s, query("commit"), "C COMMIT", "Z I")
	stands(t, s, 73, false, "a")
}

// P30.1: Names are rising by their bytes, that of "" among them.
func TestNames(t *testing.T) {
	s := New(engine.New())
	var want []string
	for _, name := range []string{"b", "", "a2", "a", "\xff", "a10", "_p1", "B", "\x00", "\u00e9"} {
		do(t, s, parse(name, ""), "1")
		want = append(want, name)
		slices.Sort(want)
		stands(t, s, 73, false, want...)
	}
	for len(want) > 0 {
		at := len(want) / 2
		do(t, s, ofStmt('C', want[at]), "3")
		want = slices.Delete(want, at, at+1)
		stands(t, s, 73, false, want...)
	}
}

// P30.1: behind an X nothing is said, and nothing changes.
func TestOver(t *testing.T) {
	for _, l := range [][]api.Front{nil, {parse("a", "select 3"), bind("x", "a")}, {parse("b", "begin"), query("begin")}} {
		e := engine.New()
		s := New(e)
		for _, f := range l {
			s.Do(f)
		}
		status, names := s.Status(), s.Names()
		do(t, s, end)
		for _, f := range append(everything(), sync, end, query("next")) {
			do(t, s, f)
			if !s.Over() || s.Status() != status || s.Skips() || !slices.Equal(s.Names(), names) || e.Count() != 0 {
				t.Fatalf("behind X %v has changed the session to %d, %v, %q, %v", f, s.Status(), s.Skips(), s.Names(), s.Over())
			}
		}
	}
}

// P30.1: an X counts also where the session skips; it skips still, then.
func TestOverSkips(t *testing.T) {
	s := New(engine.New())
	do(t, s, ofStmt('D', "a"), noA)
	do(t, s, end)
	do(t, s, sync)
	if !s.Over() || !s.Skips() {
		t.Errorf("Over is %v, Skips %v", s.Over(), s.Skips())
	}
}

// P30.1: of a nil engine, and of what no call made, nothing is said, and nothing changes, not even by an X.
func TestNotMade(t *testing.T) {
	for _, c := range []struct {
		s      *Session
		status byte
	}{{New(nil), 73}, {&Session{}, 0}, {nil, 0}} {
		for _, f := range append(everything(), sync, end, sync) {
			do(t, c.s, f)
			stands(t, c.s, c.status, false)
		}
	}
}

// P30.2: of an engine that no call made nothing is refused, there are no rows, and nothing panics.
func TestEngineNotMade(t *testing.T) {
	s := New(&engine.Engine{})
	do(t, s, parse("a", "nonsense"), "1")
	do(t, s, bind("", "a"), "2")
	do(t, s, ofPortal('D', ""), "n")
	do(t, s, execute("", 0), "C ")
	do(t, s, execute("", 0), ranTwo)
	do(t, s, sync, "Z I")
	do(t, s, query("select 3"), "T 1", "C SELECT 0", "Z I")
	for _, f := range append(everything(), sync, end) {
		s.Do(f)
	}
}

// P30.2: what is prepared is there, under its name, with its types.
func TestParse(t *testing.T) {
	s := New(engine.New())
	do(t, s, parse("a", "select 3"), "1")
	do(t, s, parse("b", "begin", 23), "1")
	do(t, s, parse("", " echo ", 0, 25, 1<<32-1), "1")
	do(t, s, parse("c", ""), "1")
	stands(t, s, 73, false, "", "a", "b", "c")
	do(t, s, ofStmt('D', "a"), "t ", "T 1")
	do(t, s, ofStmt('D', "b"), "t 23", "n")
	do(t, s, ofStmt('D', ""), "t 0,25,4294967295", "T 3")
	do(t, s, ofStmt('D', "c"), "t ", "n")
	// Another statement without a name takes the place of the one that was.
	do(t, s, parse("", "begin"), "1")
	do(t, s, ofStmt('D', ""), "t ", "n")
	do(t, s, sync, "Z I")
	stands(t, s, 73, false, "", "a", "b", "c")
}

// P30.2: the faults of a P, in their order; the statement of that name stays, but that of "" is gone.
func TestParseFaults(t *testing.T) {
	for _, c := range []struct {
		turn, text, want, unnamed string
		first                     []api.Front
	}{
		{text: "nonsense", want: syntax, unnamed: syntax},
		{text: "select 3", want: hasA, unnamed: "1"},
		{text: "", want: hasA, unnamed: "1"},
		{turn: "begin", text: "begin", want: refused, unnamed: refused},
		{turn: "begin", text: "select 3", want: hasA, unnamed: "1"},
		{turn: "select 100", text: "select 100", want: syntax, unnamed: syntax},
		{turn: "commit", text: "commit", want: hasA, unnamed: "1"},
		{first: []api.Front{bind("b", "b"), execute("b", 0)}, text: "nonsense", want: syntax, unnamed: syntax},
		{first: []api.Front{bind("b", "b"), execute("b", 0)}, text: "select 3", want: hasA, unnamed: "1"},
	} {
		for _, name := range []string{"a", ""} {
			e := engine.New()
			s := New(e)
			for _, f := range append([]api.Front{parse("a", "select 5"), parse("b", "begin"), parse("", "select 6")}, c.first...) {
				s.Do(f)
			}
			e.Turn(c.turn)
			status := s.Status()
			want, names := c.want, []string{"", "a", "b"}
			if name == "" {
				want = c.unnamed
			}
			do(t, s, parse(name, c.text), want)
			if name == "" && want != "1" {
				names = names[1:]
			}
			if status == 84 && want != "1" {
				status = 69
			}
			stands(t, s, status, want != "1", names...)
		}
	}
}

// P30.2: what is prepared while a transaction has failed: only its end.
func TestParseFailed(t *testing.T) {
	s := failed(t)
	do(t, s, parse("b", "commit"), "1")
	do(t, s, parse("", "rollback"), "1")
	stands(t, s, 69, false, "", "a", "b", "c", "e", "r")
	do(t, s, parse("a", "rollback"), hasA)
	do(t, s, sync, "Z E")
	do(t, s, parse("a", "nonsense"), syntax)
	do(t, s, sync, "Z E")
	for _, text := range []string{"select 3", "begin", "", "fail 22012"} {
		do(t, s, parse("a", text), aborted)
		stands(t, s, 69, true, "", "a", "b", "c", "e", "r")
		do(t, s, sync, "Z E")
	}
	do(t, s, parse("", "begin"), aborted)
	stands(t, s, 69, true, "a", "b", "c", "e", "r")
}

// P30.2: what is bound is there, with its parameters; that of "" takes the place of the one that was.
func TestBind(t *testing.T) {
	s := with(t, parse("a", "echo", 23, 25), parse("", "select 1"))
	do(t, s, bind("x", "a", "7", "x"), "2")
	do(t, s, bind("y", "a", "", "8"), "2")
	do(t, s, bind("", "a", "1", "2"), "2")
	do(t, s, bind("", ""), "2")
	do(t, s, bind("z", ""), "2")
	do(t, s, api.Front{Kind: 'B', Portal: "n", Name: "a", Params: []api.Cell{{Null: true}, {Bytes: []byte("n")}}, Formats: []int{1}, Results: []int{1, 1}}, "2")
	do(t, s, execute("x", 0), "D 7,x", "C SELECT 1")
	do(t, s, execute("y", 0), "D ,8", "C SELECT 1")
	do(t, s, execute("n", 0), "D null,n", "C SELECT 1")
	do(t, s, execute("", 0), "D 1", "C SELECT 1")
	do(t, s, ofPortal('D', "z"), "T 1")
	do(t, s, ofPortal('D', "n"), "T 2")
}

// P30.2: the faults of a B, in their order.
func TestBindFaults(t *testing.T) {
	arity := `E 08P01 bind message supplies 1 parameters, but prepared statement "a" requires 0`
	for _, c := range []struct {
		f    api.Front
		want string
	}{
		{bind("x", "b"), `E 26000 prepared statement "b" does not exist`},
		{bind("x", ""), "E 26000 unnamed prepared statement does not exist"},
		{bind("x", "none", "1"), `E 26000 prepared statement "none" does not exist`},
		{bind("x", "a", "1"), arity},
		{bind("y", "a", "1"), arity},
		{bind("", "a", "1"), arity},
		{bind("y", "e"), `E 08P01 bind message supplies 0 parameters, but prepared statement "e" requires 2`},
		{bind("y", "e", "1", "2", "3"), `E 08P01 bind message supplies 3 parameters, but prepared statement "e" requires 2`},
		{bind("x", "a"), hasX},
		{bind("x", "e", "1", "2"), hasX},
	} {
		for _, begun := range []bool{false, true} {
			s := with(t, parse("a", "select 3"), parse("e", "echo", 1, 2))
			status := byte(73)
			if begun {
				do(t, s, query("begin"), "C BEGIN", "Z T")
				status = 69
			}
			do(t, s, bind("x", "a"), "2")
			do(t, s, c.f, c.want)
			stands(t, s, status, true, "a", "e")
		}
	}
}

// P30.2: while a transaction has failed only its end is bound; a statement that is not there is told ahead of that, all else behind.
func TestBindFailed(t *testing.T) {
	for _, c := range []struct {
		f    api.Front
		want string
	}{
		{bind("x", "none"), `E 26000 prepared statement "none" does not exist`},
		{bind("x", "a"), aborted}, {bind("x", "a", "1"), aborted}, {bind("x", "e"), aborted}, {bind("y", "a"), aborted},
		{bind("x", "c", "1"), `E 08P01 bind message supplies 1 parameters, but prepared statement "c" requires 0`},
		{bind("x", "c"), "2"}, {bind("y", "r"), "2"}, {bind("", "c"), "2"},
	} {
		s := failed(t)
		do(t, s, c.f, c.want)
		stands(t, s, 69, c.want != "2", "a", "c", "e", "r")
	}
	s := failed(t)
	do(t, s, bind("x", "r"), "2")
	do(t, s, bind("x", "c"), hasX)
}

// P30.2: what describes a statement and a portal, of each verb.
func TestDescribe(t *testing.T) {
	for _, c := range []struct {
		text  string
		oids  []int
		types string
		rows  string
	}{
		{"select 3", nil, "t ", "T 1"}, {"select 0", []int{5}, "t 5", "T 1"}, {"select 99", []int{1, 2}, "t 1,2", "T 1"},
		{"next", nil, "t ", "T 1"}, {"next", []int{7, 8, 9}, "t 7,8,9", "T 1"},
		{"echo", nil, "t ", "T 0"}, {"echo", []int{1}, "t 1", "T 1"}, {"echo", []int{4, 5, 6, 7}, "t 4,5,6,7", "T 4"},
		{"begin", nil, "t ", "n"}, {"commit", []int{1}, "t 1", "n"}, {"rollback", nil, "t ", "n"}, {"fail 22012", []int{3, 3}, "t 3,3", "n"}, {"", []int{9}, "t 9", "n"},
	} {
		for _, name := range []string{"a", ""} {
			e := engine.New()
			s := New(e)
			do(t, s, parse(name, c.text, c.oids...), "1")
			do(t, s, bind("x", name, make([]string, len(c.oids))...), "2")
			for range 2 {
				do(t, s, ofStmt('D', name), c.types, c.rows)
				do(t, s, ofPortal('D', "x"), c.rows)
			}
			stands(t, s, 73, false, name)
			if e.Count() != 0 {
				t.Errorf("to describe %q the engine was asked", c.text)
			}
		}
	}
	// There are no more columns than 1000, while there may be more types.
	s := New(engine.New())
	do(t, s, parse("a", "echo", make([]int, 1001)...), "1")
	do(t, s, bind("", "a", make([]string, 1001)...), "2")
	do(t, s, ofPortal('D', ""), "T 1000")
}

// P30.2: the faults of a D; a statement does not stand in for a portal, nor the other way about.
func TestDescribeFaults(t *testing.T) {
	for _, c := range []struct {
		f    api.Front
		want string
	}{
		{ofStmt('D', "x"), `E 26000 prepared statement "x" does not exist`},
		{ofStmt('D', ""), "E 26000 unnamed prepared statement does not exist"},
		{ofPortal('D', "a"), `E 34000 portal "a" does not exist`},
		{ofPortal('D', ""), `E 34000 portal "" does not exist`},
		{api.Front{Kind: 'D', What: 'S', Portal: "x"}, "E 26000 unnamed prepared statement does not exist"},
		{api.Front{Kind: 'D', What: 'P', Name: "a"}, `E 34000 portal "" does not exist`},
	} {
		s := with(t, parse("a", "select 3"), bind("x", "a"))
		do(t, s, c.f, c.want)
		stands(t, s, 73, true, "a")
	}
	for _, c := range []struct {
		f    api.Front
		want []string
	}{
		{ofStmt('D', "none"), []string{`E 26000 prepared statement "none" does not exist`}},
		{ofStmt('D', "a"), []string{aborted}}, {ofStmt('D', "e"), []string{aborted}},
		{ofStmt('D', "c"), []string{"t ", "n"}}, {ofStmt('D', "r"), []string{"t ", "n"}},
		{ofPortal('D', "y"), []string{`E 34000 portal "y" does not exist`}},
		{ofPortal('D', "x"), []string{"n"}},
	} {
		s := failed(t)
		do(t, s, bind("x", "c"), "2")
		do(t, s, c.f, c.want...)
		stands(t, s, 69, strings.HasPrefix(c.want[0], "E"), "a", "c", "e", "r")
	}
}

// P30.2: a portal in a transaction that has failed is not used, unless it ends that; since a fault has all be gone, such a one is made here by hand.
func TestPortalFailed(t *testing.T) {
	for _, f := range []api.Front{ofPortal('D', "x"), execute("x", 0)} {
		s := with(t, parse("a", "select 3"), parse("c", "commit"), bind("x", "a"), bind("y", "c"))
		s.status = 69
		do(t, s, ofPortal('D', "y"), "n")
		do(t, s, f, aborted)
		stands(t, s, 69, true, "a", "c")
	}
}

// P30.2: rows are told as far as Max says; what is left is told by the next E, and behind all there are none.
func TestExecuteRows(t *testing.T) {
	s := with(t, parse("a", "select 5"))
	do(t, s, bind("", "a"), "2")
	do(t, s, execute("", 2), "D 1", "D 2", "s")
	do(t, s, execute("", 1), "D 3", "s")
	do(t, s, ofPortal('D', ""), "T 1")
	do(t, s, execute("", 2), "D 4", "D 5", "C SELECT 2")
	do(t, s, execute("", 2), "C SELECT 0")
	do(t, s, execute("", 0), "C SELECT 0")
	do(t, s, bind("", "a"), "2")
	do(t, s, execute("", 3), "D 1", "D 2", "D 3", "s")
	do(t, s, execute("", 0), "D 4", "D 5", "C SELECT 2")
	for _, most := range []int{0, -1, -1 << 31, -1 << 63, 5, 6, 1<<31 - 1, 1<<63 - 1} {
		do(t, s, bind("", "a"), "2")
		do(t, s, execute("", most), "D 1", "D 2", "D 3", "D 4", "D 5", "C SELECT 5")
		do(t, s, execute("", most), "C SELECT 0")
	}
	do(t, s, parse("none", "select 0"), "1")
	do(t, s, bind("", "none"), "2")
	do(t, s, execute("", 1), "C SELECT 0")
	do(t, s, execute("", 1), "C SELECT 0")
	do(t, s, parse("all", "select 99"), "1")
	do(t, s, bind("", "all"), "2")
	var want []string
	for n := range 99 {
		want = append(want, "D "+strconv.Itoa(n+1))
	}
	do(t, s, execute("", 0), append(want, "C SELECT 99")...)
	do(t, s, sync, "Z I")
}

// P30.2: the engine is asked once by each portal, when it runs, and not again.
func TestExecuteNext(t *testing.T) {
	e := engine.New()
	s := New(e)
	e.Next()
	do(t, s, parse("a", "next"), "1")
	do(t, s, bind("x", "a"), "2")
	do(t, s, bind("y", "a"), "2")
	do(t, s, bind("z", "a"), "2")
	if e.Count() != 1 {
		t.Fatalf("the engine was asked %d times ahead", e.Count())
	}
	do(t, s, execute("y", 1), "D 2", "C SELECT 1")
	do(t, s, execute("x", 0), "D 3", "C SELECT 1")
	do(t, s, execute("y", 1), "C SELECT 0")
	do(t, s, execute("x", 1), "C SELECT 0")
	if e.Count() != 3 {
		t.Fatalf("the engine was asked %d times", e.Count())
	}
	e.Next()
	do(t, s, execute("z", 7), "D 5", "C SELECT 1")
}

// P30.2: rows of parameters: as many cells as there are, none among them.
func TestExecuteEcho(t *testing.T) {
	s := with(t, parse("a", "echo", 1, 2, 3), parse("b", "echo"))
	f := bind("x", "a", "1", "", "3")
	f.Params[1] = api.Cell{Null: true}
	do(t, s, f, "2")
	do(t, s, bind("y", "b"), "2")
	do(t, s, execute("x", 1), "D 1,null,3", "C SELECT 1")
	do(t, s, execute("y", 1), "D ", "C SELECT 1")
	do(t, s, execute("x", 1), "C SELECT 0")
}

// P30.2: a transaction begins and ends; what ends it has all portals be gone, also its own, and also where there is none.
func TestExecuteTx(t *testing.T) {
	for text, tag := range map[string]string{"commit": "C COMMIT", "rollback": "C ROLLBACK"} {
		for _, begun := range []bool{false, true} {
			s := with(t, parse("a", "select 3"), parse("b", "begin"), parse("c", text))
			for _, p := range []string{"x", "y", ""} {
				do(t, s, bind(p, "a"), "2")
			}
			do(t, s, bind("b", "b"), "2")
			do(t, s, bind("c", "c"), "2")
			if begun {
				do(t, s, execute("b", 1), "C BEGIN")
				stands(t, s, 84, false, "a", "b", "c")
			}
			do(t, s, execute("x", 1), "D 1", "s")
			do(t, s, execute("c", 0), tag)
			stands(t, s, 73, false, "a", "b", "c")
			for _, p := range []string{"x", "y", "", "b", "c"} {
				do(t, s, bind(p, "a"), "2")
			}
			do(t, s, execute("c", 0), "D 1", "D 2", "D 3", "C SELECT 3")
		}
	}
	s := with(t, parse("c", "commit"), bind("c", "c"))
	do(t, s, execute("c", 0), "C COMMIT")
	do(t, s, execute("c", 0), `E 34000 portal "c" does not exist`)
	// There is no transaction within another.
	s = with(t, parse("b", "begin"), query("begin"), bind("", "b"))
	do(t, s, execute("", 0), "C BEGIN")
	stands(t, s, 84, false, "b")
}

// P30.2: a transaction that has failed ends by either of both, with the same words.
func TestExecuteFailed(t *testing.T) {
	for _, name := range []string{"c", "r"} {
		s := failed(t)
		do(t, s, bind("x", "c"), "2")
		do(t, s, bind("y", name), "2")
		do(t, s, sync, "Z E")
		do(t, s, execute("y", 0), "C ROLLBACK")
		stands(t, s, 73, false, "a", "c", "e", "r")
		do(t, s, ofPortal('D', "x"), noX)
	}
	s := failed(t)
	do(t, s, execute("x", 0), noX)
	stands(t, s, 69, true, "a", "c", "e", "r")
}

// P30.2: what has no rows is run once by a portal; but an empty one again and again.
func TestExecuteAgain(t *testing.T) {
	s := with(t, parse("a", ""), parse("b", "begin"))
	do(t, s, bind("x", "a"), "2")
	do(t, s, bind("y", "b"), "2")
	for range 3 {
		do(t, s, execute("x", 1), "I")
	}
	stands(t, s, 73, false, "a", "b")
	do(t, s, execute("y", 0), "C BEGIN")
	do(t, s, sync, "Z T")
	do(t, s, execute("y", 0), ranTwo)
	stands(t, s, 69, true, "a", "b")
	do(t, s, sync, "Z E")
	do(t, s, execute("x", 0), noX)
}

// P30.2: what fails on purpose does so with its code, each time that it is bound.
func TestExecuteFail(t *testing.T) {
	s := with(t, parse("a", "fail 22012"), parse("b", "fail 42P01"))
	for range 2 {
		do(t, s, bind("x", "a"), "2")
		do(t, s, execute("x", 1), purpose)
		stands(t, s, 73, true, "a", "b")
		do(t, s, sync, "Z I")
	}
	do(t, s, query("begin"), "C BEGIN", "Z T")
	do(t, s, bind("", "b"), "2")
	do(t, s, execute("", 0), "E 42P01 failed on purpose")
	stands(t, s, 69, true, "a", "b")
	do(t, s, execute("x", 0))
	do(t, s, sync, "Z E")
}

// P30.2: a portal has its statement, whatever becomes of that.
func TestPortalKeeps(t *testing.T) {
	e := engine.New()
	s := New(e)
	do(t, s, parse("a", "select 2"), "1")
	do(t, s, parse("", "echo", 5), "1")
	do(t, s, bind("x", "a"), "2")
	do(t, s, bind("y", "", "7"), "2")
	do(t, s, ofStmt('C', "a"), "3")
	do(t, s, parse("", "begin"), "1")
	do(t, s, parse("a", "next"), "1")
	e.Turn("select 2")
	do(t, s, ofPortal('D', "y"), "T 1")
	do(t, s, execute("x", 0), "D 1", "D 2", "C SELECT 2")
	do(t, s, execute("y", 0), "D 7", "C SELECT 1")
	if e.Count() != 0 {
		t.Error("the engine was asked")
	}
}

// P30.2: what is closed is gone, and nothing else; what is not there can be closed, too.
func TestClose(t *testing.T) {
	s := with(t, parse("a", "select 1"), parse("x", "select 2"), parse("", "select 3"), bind("a", "a"), bind("x", "x"), bind("", ""))
	do(t, s, ofStmt('C', "none"), "3")
	do(t, s, ofPortal('C', "none"), "3")
	stands(t, s, 73, false, "", "a", "x")
	do(t, s, ofStmt('C', "a"), "3")
	stands(t, s, 73, false, "", "x")
	do(t, s, ofStmt('C', "a"), "3")
	do(t, s, execute("a", 0), "D 1", "C SELECT 1")
	do(t, s, ofPortal('C', "x"), "3")
	stands(t, s, 73, false, "", "x")
	do(t, s, ofStmt('C', ""), "3")
	stands(t, s, 73, false, "x")
	do(t, s, execute("", 1), "D 1", "s")
	do(t, s, ofPortal('C', ""), "3")
	do(t, s, bind("x", "x"), "2")
	do(t, s, execute("", 1), `E 34000 portal "" does not exist`)
}

// P30.2: what a C names in a field that is not its own is not closed; a C or a D of neither is nothing.
func TestCloseOther(t *testing.T) {
	s := with(t, parse("a", "select 1"), bind("a", "a"))
	do(t, s, api.Front{Kind: 'C', What: 'S', Portal: "a"}, "3")
	do(t, s, api.Front{Kind: 'C', What: 'P', Name: "a"}, "3")
	for what := range 256 {
		if what == 'S' || what == 'P' {
			continue
		}
		do(t, s, api.Front{Kind: 'C', What: byte(what), Name: "a", Portal: "a"})
		do(t, s, api.Front{Kind: 'D', What: byte(what), Name: "none", Portal: "none"})
	}
	stands(t, s, 73, false, "a")
	do(t, s, ofPortal('D', "a"), "T 1")
}

// P30.2: what is closed while a transaction has failed is gone, too.
func TestCloseFailed(t *testing.T) {
	s := failed(t)
	do(t, s, bind("x", "r"), "2")
	do(t, s, ofStmt('C', "a"), "3")
	do(t, s, ofPortal('C', "x"), "3")
	stands(t, s, 69, false, "c", "e", "r")
	do(t, s, execute("x", 0), noX)
}

// P30.2: an S says the status; portals stay as long as there is a transaction, but not behind an S without one.
func TestSync(t *testing.T) {
	s := with(t, parse("a", "select 3"), bind("x", "a"))
	do(t, s, flush)
	do(t, s, execute("x", 1), "D 1", "s")
	do(t, s, sync, "Z I")
	do(t, s, execute("x", 1), noX)
	do(t, s, sync, "Z I")
	stands(t, s, 73, false, "a")
	do(t, s, query("begin"), "C BEGIN", "Z T")
	do(t, s, bind("x", "a"), "2")
	do(t, s, execute("x", 1), "D 1", "s")
	do(t, s, sync, "Z T")
	do(t, s, sync, "Z T")
	do(t, s, execute("x", 1), "D 2", "s")
	do(t, s, execute("none", 1), `E 34000 portal "none" does not exist`)
	stands(t, s, 69, true, "a")
	do(t, s, sync, "Z E")
	stands(t, s, 69, false, "a")
	do(t, s, execute("x", 1), noX)
	do(t, s, sync, "Z E")
}

// P30.1: a fault within a transaction has all portals be gone at once; one without leaves them up to the S, where nobody sees them.
func TestFaultPortals(t *testing.T) {
	s := with(t, parse("a", "select 3"), parse("r", "rollback"), query("begin"), bind("x", "a"), bind("r", "r"), bind("", "a"))
	do(t, s, bind("x", "a"), hasX)
	if got := s.portals.Names(); len(got) != 0 {
		t.Errorf("the portals %q are left", got)
	}
	do(t, s, sync, "Z E")
	do(t, s, execute("r", 0), `E 34000 portal "r" does not exist`)
	s = with(t, parse("a", "select 3"), bind("x", "a"))
	do(t, s, bind("x", "a"), hasX)
	if got := s.portals.Names(); !slices.Equal(got, []string{"x"}) {
		t.Errorf("the portals are %q", got)
	}
	do(t, s, sync, "Z I")
	if got := s.portals.Names(); len(got) != 0 {
		t.Errorf("the portals %q are left", got)
	}
}

// P30.2: a Q of each verb, without a transaction.
func TestQuery(t *testing.T) {
	e := engine.New()
	s := New(e)
	do(t, s, query("select 2"), "T 1", "D 1", "D 2", "C SELECT 2", "Z I")
	do(t, s, query(" select 0 "), "T 1", "C SELECT 0", "Z I")
	do(t, s, query("echo"), "T 0", "D ", "C SELECT 1", "Z I")
	do(t, s, query("next"), "T 1", "D 1", "C SELECT 1", "Z I")
	do(t, s, query("next"), "T 1", "D 2", "C SELECT 1", "Z I")
	do(t, s, query(""), "I", "Z I")
	do(t, s, query("  "), "I", "Z I")
	do(t, s, query("commit"), "C COMMIT", "Z I")
	do(t, s, query("rollback"), "C ROLLBACK", "Z I")
	do(t, s, query("nonsense"), syntax, "Z I")
	do(t, s, query("fail 22012"), purpose, "Z I")
	stands(t, s, 73, false)
	e.Turn("select 2")
	do(t, s, query("select 2"), refused, "Z I")
	stands(t, s, 73, false)
	if e.Count() != 2 {
		t.Errorf("the engine was asked %d times", e.Count())
	}
}

// P30.2: a Q of each verb in a transaction, and in one that has failed; it never skips.
func TestQueryTx(t *testing.T) {
	s := New(engine.New())
	do(t, s, query("begin"), "C BEGIN", "Z T")
	do(t, s, query("begin"), "C BEGIN", "Z T")
	do(t, s, query("select 1"), "T 1", "D 1", "C SELECT 1", "Z T")
	do(t, s, query(""), "I", "Z T")
	do(t, s, query("commit"), "C COMMIT", "Z I")
	for text, want := range map[string]string{"nonsense": syntax, "fail 22012": purpose} {
		for _, end := range []string{"commit", "rollback"} {
			do(t, s, query("begin"), "C BEGIN", "Z T")
			do(t, s, query(text), want, "Z E")
			stands(t, s, 69, false)
			for _, text := range []string{"begin", "select 1", "echo", "next", "", "fail 22012"} {
				do(t, s, query(text), aborted, "Z E")
			}
			do(t, s, query("nonsense"), syntax, "Z E")
			stands(t, s, 69, false)
			do(t, s, query(end), "C ROLLBACK", "Z I")
			stands(t, s, 73, false)
		}
	}
	do(t, s, query("begin"), "C BEGIN", "Z T")
	do(t, s, query("rollback"), "C ROLLBACK", "Z I")
}

// P30.2: a Q has the statement "" and the portal "" be gone, also where it is refused; others stay in a transaction.
func TestQueryGone(t *testing.T) {
	for _, text := range []string{"select 1", "", "begin", "nonsense"} {
		s := with(t, query("begin"), parse("a", "select 3"), parse("", "select 4"), bind("x", "a"), bind("", "a"))
		s.Do(query(text))
		if text == "nonsense" {
			stands(t, s, 69, false, "a")
			do(t, s, execute("x", 0), noX)
			continue
		}
		stands(t, s, 84, false, "a")
		do(t, s, execute("x", 1), "D 1", "s")
		do(t, s, execute("", 1), `E 34000 portal "" does not exist`)
	}
	for _, text := range []string{"select 1", "", "commit", "rollback", "nonsense", "fail 22012"} {
		s := with(t, parse("a", "select 3"), parse("", "select 4"), bind("x", "a"), bind("", "a"))
		s.Do(query(text))
		stands(t, s, 73, false, "a")
		do(t, s, execute("x", 0), noX)
	}
	// Without a transaction ahead, but with one behind, portals stay.
	s := with(t, parse("a", "select 3"), bind("x", "a"), query("begin"))
	do(t, s, execute("x", 1), "D 1", "s")
	do(t, s, query("commit"), "C COMMIT", "Z I")
	do(t, s, execute("x", 1), noX)
}

// P30.2: an H, and what is none of these, is nothing.
func TestOthers(t *testing.T) {
	for _, s := range []*Session{with(t, parse("a", "select 3")), with(t, parse("a", "select 3"), query("begin"))} {
		status := s.Status()
		for kind := range 256 {
			if strings.ContainsRune("PBDECSQX", rune(kind)) {
				continue
			}
			do(t, s, api.Front{Kind: byte(kind), What: 'S', Name: "none", Portal: "none", Text: "nonsense", Max: 1, OIDs: []int{1}})
			stands(t, s, status, false, "a")
		}
	}
}

// P30.3: behind a fault in P, B, D or E nothing is said, and nothing changes, up to the next S.
func TestSkips(t *testing.T) {
	for _, f := range []api.Front{
		parse("b", "nonsense"), parse("a", "select 3"), bind("y", "none"), bind("y", "a", "1"), bind("x", "a"),
		ofStmt('D', "none"), ofPortal('D', "none"), execute("none", 0), execute("f", 1), execute("b", 1),
	} {
		for _, status := range []byte{73, 69} {
			e := engine.New()
			s := New(e)
			l := []api.Front{parse("a", "select 3"), parse("f", "fail 22012"), parse("b", "begin"), bind("x", "a"), bind("f", "f"), bind("b", "b")}
			if status == 69 || f.Portal == "b" {
				l = append(l, execute("b", 0))
			}
			for _, f := range l {
				s.Do(f)
			}
			if f.Portal == "b" {
				status = 69
			}
			if got := s.Do(f); len(got) != 1 || got[0].Kind != 'E' {
				t.Fatalf("of %v %v is said", f, got)
			}
			for _, f := range append(everything(), query("next"), parse("n", "next"), ofStmt('C', "a")) {
				do(t, s, f)
				stands(t, s, status, true, "a", "b", "f")
			}
			do(t, s, sync, "Z "+string([]byte{status}))
			stands(t, s, status, false, "a", "b", "f")
			if e.Count() != 0 {
				t.Error("the engine was asked")
			}
			do(t, s, query("rollback"), "C ROLLBACK", "Z I")
		}
	}
}

// P30.1: sessions of one engine have it together, and nothing else.
func TestTogether(t *testing.T) {
	e := engine.New()
	one, two := New(e), New(e)
	do(t, one, parse("a", "next"), "1")
	do(t, two, bind("", "a"), noA)
	do(t, two, sync, "Z I")
	do(t, one, bind("", "a"), "2")
	do(t, two, query("next"), "T 1", "D 1", "C SELECT 1", "Z I")
	do(t, one, execute("", 0), "D 2", "C SELECT 1")
	do(t, two, query("begin"), "C BEGIN", "Z T")
	do(t, two, end)
	do(t, one, sync, "Z I")
	stands(t, one, 73, false, "a")
	e.Turn("next")
	do(t, one, query("next"), refused, "Z I")
}

// R3: nothing that is handed in is kept, or changed, and nothing that is answered is shared.
func TestApart(t *testing.T) {
	s := New(engine.New())
	oids := append(make([]int, 0, 8), 23, 25)
	room := oids[:4]
	room[2], room[3] = 7, 8
	do(t, s, api.Front{Kind: 'P', Name: "a", Text: "echo", OIDs: oids}, "1")
	if !slices.Equal(room, []int{23, 25, 7, 8}) {
		t.Fatalf("the types are %v", room)
	}
	clear(room)
	params := []api.Cell{{Bytes: []byte("one")}, {Bytes: []byte("two")}}
	do(t, s, api.Front{Kind: 'B', Portal: "x", Name: "a", Params: params}, "2")
	if cells(params) != "one,two" {
		t.Fatalf("the parameters are %q", cells(params))
	}
	clear(params[0].Bytes)
	params[1].Null = true
	for range 2 {
		for _, f := range []api.Front{ofStmt('D', "a"), ofPortal('D', "x")} {
			for _, b := range s.Do(f) {
				clear(b.OIDs[:cap(b.OIDs)])
				clear(b.Cols[:cap(b.Cols)])
			}
		}
	}
	do(t, s, ofStmt('D', "a"), "t 23,25", "T 2")
	do(t, s, ofPortal('D', "x"), "T 2")
	do(t, s, execute("x", 0), "D one,two", "C SELECT 1")
	names := s.Names()
	clear(names[:cap(names)])
	stands(t, s, 73, false, "a")
}

// R3: what rows say is not shared with the next ones.
func TestApartRows(t *testing.T) {
	s := with(t, parse("a", "select 3"), bind("x", "a"))
	for n := range 3 {
		said := s.Do(execute("x", 1))
		if got := written(said[0]); got != "D "+strconv.Itoa(n+1) {
			t.Fatalf("row %d is %q", n, got)
		}
		for _, b := range said {
			for _, c := range b.Row {
				clear(c.Bytes[:cap(c.Bytes)])
			}
			clear(b.Row[:cap(b.Row)])
			clear(b.Fields[:cap(b.Fields)])
		}
		clear(said[:cap(said)])
	}
	do(t, s, query("select 2"), "T 1", "D 1", "D 2", "C SELECT 2", "Z I")
}
