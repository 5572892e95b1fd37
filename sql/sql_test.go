package sql

import (
	"math"
	"slices"
	"strconv"
	"strings"
	"testing"

	"remuda/api"
)

// kinds are all that a verb may have, and some that none has.
func kinds() []int {
	list := []int{math.MinInt, -1, math.MaxInt}
	for kind := range api.VerbFail + 3 {
		list = append(list, kind)
	}
	return list
}

// words are what texts say without anything behind them.
func words() map[string]int {
	return map[string]int{
		"": api.VerbEmpty, "begin": api.VerbBegin, "commit": api.VerbCommit,
		"rollback": api.VerbRollback, "echo": api.VerbEcho, "next": api.VerbNext,
	}
}

// verbs are all that a text may say, but for most codes.
func verbs() []api.Verb {
	var list []api.Verb
	for _, kind := range words() {
		list = append(list, api.Verb{Kind: kind})
	}
	for n := range 100 {
		list = append(list, api.Verb{Kind: api.VerbSelect, N: n})
	}
	for _, code := range []string{"22012", "42P01", "00000", "99999", "AAAAA", "ZZZZZ", "0A0Z9"} {
		list = append(list, api.Verb{Kind: api.VerbFail, Code: code})
	}
	return list
}

// bad checks that text says nothing.
func bad(t *testing.T, text string) {
	t.Helper()
	if got := Parse(text); got != (api.Verb{}) {
		t.Errorf("%q says %+v", text, got)
	}
}

// P26.1: each word says its verb, and nothing else does.
func TestParseWords(t *testing.T) {
	for word, kind := range words() {
		if got := Parse(word); got != (api.Verb{Kind: kind}) {
			t.Errorf("%q says %+v", word, got)
		}
		if word == "" {
			continue
		}
		for _, text := range []string{strings.ToUpper(word), word[:1], word[:len(word)-1], word + "x", "x" + word, word + " 1", word + ";", word + "\x00", word[:2] + " " + word[2:], word + " " + word} {
			bad(t, text)
		}
	}
	for _, text := range []string{"nonsense", "select", "fail", "bad", "empty", "exit", ";", "0", "\x00", "\xff"} {
		bad(t, text)
	}
}

// P26.1: the bytes 32 at both ends count for nothing; others do.
func TestParseBlanks(t *testing.T) {
	for _, v := range verbs() {
		text := Print(v)
		for _, blanks := range [][2]string{{" ", ""}, {"", " "}, {"   ", "     "}, {strings.Repeat(" ", 1000), strings.Repeat(" ", 1000)}} {
			if got := Parse(blanks[0] + text + blanks[1]); got != v {
				t.Errorf("%q between blanks says %+v", text, got)
			}
		}
		for _, other := range []string{"\t", "\n", "\r", "\v", "\f", "\x00", "\u00a0", "\u2003"} {
			bad(t, other+text)
			bad(t, text+other)
			bad(t, " "+other+text)
		}
	}
}

// P26.1: "select " and a number from 0 to 99, without noughts ahead.
func TestParseSelect(t *testing.T) {
	for n := range 100 {
		if got := Parse("select " + strconv.Itoa(n)); got != (api.Verb{Kind: api.VerbSelect, N: n}) {
			t.Errorf("select %d says %+v", n, got)
		}
	}
	for _, rest := range []string{"", " ", "100", "999", "1000", "9999999999", "10000000001", "18446744073709551617", "00", "01", "007", "-1", "-0", "+1", "1.0", "1e1", "0x1", " 1", "  7", "1 2", "1,2", "a", "1a", "a1", "\u0661", "\t1", "*"} {
		bad(t, "select "+rest)
	}
	for _, text := range []string{"select7", "select", "select\t7", "Select 7", "SELECT 7", "selects 7", "7", "select 7;", "select select 7"} {
		bad(t, text)
	}
}

// P26.1: "fail " and five bytes, each a digit or one of A to Z.
func TestParseFail(t *testing.T) {
	for n := range 256 {
		for at := range 5 {
			code := []byte("2201Z")
			code[at] = byte(n)
			want := api.Verb{}
			if n >= '0' && n <= '9' || n >= 'A' && n <= 'Z' {
				want = api.Verb{Kind: api.VerbFail, Code: string(code)}
			}
			if got := Parse("fail " + string(code)); got != want {
				t.Errorf("%q says %+v", code, got)
			}
		}
	}
	for _, rest := range []string{"", "2", "2201", "220122", "22 12", " 22012", " 2201", "2201\u00c4", "\u00c4\u00c4A", "22012 22012", "ABCDEF", strings.Repeat("0", 1000)} {
		bad(t, "fail "+rest)
	}
	for _, text := range []string{"fail22012", "fail", "Fail 22012", "fail\t22012", "22012", "fails 22012"} {
		bad(t, text)
	}
}

// P26.1: Print tells each verb by its text, without blanks around.
func TestPrint(t *testing.T) {
	for word, kind := range words() {
		if got := Print(api.Verb{Kind: kind}); got != word {
			t.Errorf("the kind %d is printed as %q", kind, got)
		}
	}
	for _, c := range []struct {
		v    api.Verb
		want string
	}{
		{api.Verb{Kind: api.VerbSelect}, "select 0"},
		{api.Verb{Kind: api.VerbSelect, N: 7}, "select 7"},
		{api.Verb{Kind: api.VerbSelect, N: 99}, "select 99"},
		{api.Verb{Kind: api.VerbFail, Code: "22012"}, "fail 22012"},
		{api.Verb{Kind: api.VerbFail, Code: "AZ09B"}, "fail AZ09B"},
	} {
		if got := Print(c.v); got != c.want {
			t.Errorf("%+v is printed as %q", c.v, got)
		}
	}
}

// P26.1: what is bad, and what may not be, is printed as "".
func TestPrintNothing(t *testing.T) {
	list := []api.Verb{
		{Kind: api.VerbBad}, {Kind: api.VerbBad, N: 1}, {Kind: api.VerbBad, Code: "22012"},
		{Kind: -1}, {Kind: api.VerbFail + 1}, {Kind: math.MaxInt}, {Kind: math.MinInt, N: 7, Code: "22012"},
		{Kind: api.VerbSelect, Code: "22012"}, {Kind: api.VerbFail, Code: "22012", N: 1}, {Kind: api.VerbFail},
		{Kind: api.VerbEmpty, N: 1}, {Kind: api.VerbEmpty, Code: "22012"},
		{Kind: api.VerbBegin, N: 1}, {Kind: api.VerbCommit, Code: "22012"}, {Kind: api.VerbRollback, N: -1},
		{Kind: api.VerbEcho, N: 3}, {Kind: api.VerbNext, Code: " "},
	}
	for _, n := range []int{-1, -7, 100, 101, 1000, math.MaxInt, math.MinInt} {
		list = append(list, api.Verb{Kind: api.VerbSelect, N: n})
	}
	for _, code := range []string{"2", "2201", "220122", "2201a", "2201 ", " 2201", "     ", "22\x0012", "2201\u00c4", "2201\xff", " 22012", "22012 "} {
		list = append(list, api.Verb{Kind: api.VerbFail, Code: code})
	}
	for _, v := range list {
		if got := Print(v); got != "" {
			t.Errorf("%+v is printed as %q", v, got)
		}
	}
}

// P26.2: Exit, Rows and Columns ask for the kind alone.
func TestKinds(t *testing.T) {
	exits := []int{api.VerbCommit, api.VerbRollback}
	rows := []int{api.VerbSelect, api.VerbEcho, api.VerbNext}
	ones := []int{api.VerbSelect, api.VerbNext}
	for _, kind := range kinds() {
		for _, v := range []api.Verb{{Kind: kind}, {Kind: kind, N: 7}, {Kind: kind, N: -1, Code: "22012"}} {
			if got := Exit(v); got != slices.Contains(exits, kind) {
				t.Errorf("Exit(%+v) is %v", v, got)
			}
			if got := Rows(v); got != slices.Contains(rows, kind) {
				t.Errorf("Rows(%+v) is %v", v, got)
			}
			for _, oids := range []int{math.MinInt, -1, 0, 1, 2, 999, 1000, 1001, math.MaxInt} {
				want := 0
				if slices.Contains(ones, kind) {
					want = 1
				} else if kind == api.VerbEcho {
					want = max(0, min(oids, 1000))
				}
				if got := Columns(v, oids); got != want {
					t.Errorf("Columns(%+v, %d) is %d", v, oids, got)
				}
			}
		}
	}
}

// P26.3: Parse of Print is the verb.
func TestParseOfPrint(t *testing.T) {
	for _, v := range verbs() {
		if got := Parse(Print(v)); got != v {
			t.Errorf("%+v, printed and parsed, is %+v", v, got)
		}
	}
	// Whatever the verb: what is printed of it says just that.
	for _, kind := range kinds() {
		for n := -2; n < 103; n++ {
			for _, code := range []string{"", "22012", "x"} {
				v := api.Verb{Kind: kind, N: n, Code: code}
				if text := Print(v); text != "" && Parse(text) != v {
					t.Errorf("%+v is printed as %q", v, text)
				}
			}
		}
	}
}
