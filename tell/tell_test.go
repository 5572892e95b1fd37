package tell

import (
	"math"
	"strings"
	"testing"
)

// names are some that clients, servers and the pooler may have, and some that look like what is said of them.
func names() []string {
	return []string{
		"x", "", "_none", "_dup", "_p3", "a b", `"`, `""`, `a"b`, "'", `\`, "%s", "$1", "\n", "\x00", "\xff", "\u0100",
		"unnamed", "prepared statement", " requires ", `, but prepared statement "x" requires `,
		`x" requires 1, but prepared statement "x`, `x" does not exist`, Missing("x"), Exists("x"), Arity(1, "x", 2),
		strings.Repeat("long", 10000),
	}
}

// codes are those that are renamed by, and others.
var codes = []string{"26000", "42P05", "08P01", "", "34000", "42P03", "26001", "42p05", "08P0", "08P011", " 26000"}

// P9.1: Missing tells the name between quotation marks, but of "".
func TestMissing(t *testing.T) {
	for _, c := range [][2]string{
		{"x", `prepared statement "x" does not exist`},
		{"", "unnamed prepared statement does not exist"},
		{" ", `prepared statement " " does not exist`},
		{`"`, `prepared statement """ does not exist`},
		{`a"b\`, `prepared statement "a"b\" does not exist`},
		{"\x00\xff", "prepared statement \"\x00\xff\" does not exist"},
		{"unnamed", `prepared statement "unnamed" does not exist`},
	} {
		if s := Missing(c[0]); s != c[1] {
			t.Errorf("Missing(%q) is %q", c[0], s)
		}
	}
}

// P9.1: Exists, Portal and Cursor tell the name between quotation marks, "" too.
func TestQuoted(t *testing.T) {
	for _, name := range names() {
		for _, c := range [][3]string{
			{"Exists", Exists(name), `prepared statement "` + name + `" already exists`},
			{"Portal", Portal(name), `portal "` + name + `" does not exist`},
			{"Cursor", Cursor(name), `cursor "` + name + `" already exists`},
		} {
			if c[1] != c[2] {
				t.Errorf("%s(%.100q) is %.200q", c[0], name, c[1])
			}
		}
	}
}

// P9.1: Arity tells both numbers, each at its place, and the name.
func TestArity(t *testing.T) {
	for _, c := range []struct {
		params       int
		name         string
		want         int
		ahead, after string
	}{
		{1, "x", 2, "1", "2"},
		{0, "", 0, "0", "0"},
		{2, "_p3", 1, "2", "1"},
		{65535, `a"b`, 10, "65535", "10"},
		{-1, "\x00\xff", -12, "-1", "-12"},
		{math.MaxInt, "x", math.MinInt, "9223372036854775807", "-9223372036854775808"},
	} {
		want := "bind message supplies " + c.ahead + ` parameters, but prepared statement "` + c.name + `" requires ` + c.after
		if s := Arity(c.params, c.name, c.want); s != want {
			t.Errorf("Arity(%d, %q, %d) is %q", c.params, c.name, c.want, s)
		}
	}
}

// P9.2, P9.3: what says something of one name, renamed, says it of the other one.
func TestRename(t *testing.T) {
	for _, from := range names() {
		for _, to := range names() {
			checkRename(t, "26000", Missing(from), from, to, Missing(to))
			checkRename(t, "42P05", Exists(from), from, to, Exists(to))
			checkRename(t, "08P01", Arity(1, from, 2), from, to, Arity(1, to, 2))
			checkRename(t, "08P01", Arity(-7, from, math.MaxInt), from, to, Arity(-7, to, math.MaxInt))
		}
	}
}

func checkRename(t *testing.T, code, text, from, to, want string) {
	t.Helper()
	if s := Rename(code, text, from, to); s != want {
		t.Fatalf("Rename(%q, %.200q, %.200q, %.200q) is %.200q, not %.200q", code, text, from, to, s, want)
	}
}

// P9.2: what stands under another code stays.
func TestRenameCode(t *testing.T) {
	said := map[string]string{"26000": Missing("a"), "42P05": Exists("a"), "08P01": Arity(1, "a", 2), "34000": Portal("a"), "42P03": Cursor("a")}
	for own, text := range said {
		for _, code := range codes {
			want := text
			switch {
			case code != own:
			case own == "26000":
				want = Missing("b")
			case own == "42P05":
				want = Exists("b")
			case own == "08P01":
				want = Arity(1, "b", 2)
			}
			checkRename(t, code, text, "a", "b", want)
		}
	}
}

// P9.2: what says something of another name stays, be it longer, shorter, or in other letters.
func TestRenameOther(t *testing.T) {
	for _, name := range []string{"", "A", "aa", "a ", " a", `"a"`, "b", "\x00a", "x"} {
		checkRename(t, "26000", Missing(name), "a", "to", Missing(name))
		checkRename(t, "42P05", Exists(name), "a", "to", Exists(name))
		checkRename(t, "08P01", Arity(1, name, 2), "a", "to", Arity(1, name, 2))
		checkRename(t, "26000", Missing("a"), name, "to", Missing("a"))
		checkRename(t, "42P05", Exists("a"), name, "to", Exists("a"))
		checkRename(t, "08P01", Arity(1, "a", 2), name, "to", Arity(1, "a", 2))
	}
}

// P9.2: under 26000 and 42P05 the text is just what is said, with nothing ahead, behind, or in another way.
func TestRenameWhole(t *testing.T) {
	for _, code := range []string{"26000", "42P05"} {
		for _, text := range []string{
			"", "a", `"a"`, "x" + Missing("a"), Missing("a") + ".", Missing("a") + Missing("a"), " " + Exists("a"), Exists("a") + "\x00",
			"prepared statement a does not exist", "Prepared statement \"a\" does not exist", Arity(1, "a", 2), Portal("a"), Cursor("a"),
			strings.TrimSuffix(Missing("a"), "t"), strings.TrimSuffix(Exists("a"), "s"),
		} {
			checkRename(t, code, text, "a", "b", text)
		}
	}
	// The statement without a name has a text of its own.
	checkRename(t, "26000", `prepared statement "" does not exist`, "", "b", `prepared statement "" does not exist`)
	checkRename(t, "26000", Missing(""), "unnamed", "b", Missing(""))
	checkRename(t, "42P05", "unnamed prepared statement already exists", "", "b", "unnamed prepared statement already exists")
}

// P9.2: under 08P01 the place is wherever it stands first, and no other one is renamed.
func TestRenamePlace(t *testing.T) {
	const place, other, to = `, but prepared statement "a" requires `, `, but prepared statement "c" requires `, `, but prepared statement "b" requires `
	for _, c := range [][2]string{
		{place, to},
		{"x" + place, "x" + to},
		{place + "x", to + "x"},
		{"\xff\x00" + place + "\x00\xff", "\xff\x00" + to + "\x00\xff"},
		{place + place, to + place},
		{"1" + place + "2" + place + "3" + place, "1" + to + "2" + place + "3" + place},
		{other + place, other + to},
		{place + other, to + other},
		{`"a"` + place + `"a"`, `"a"` + to + `"a"`},
		{`, but prepared statement "a` + place, `, but prepared statement "a` + to},
		{`, but prepared statement "a"` + place, `, but prepared statement "a"` + to},
		{"bind message supplies -1 parameters" + place, "bind message supplies -1 parameters" + to},
	} {
		checkRename(t, "08P01", c[0], "a", "b", c[1])
	}
}

// P9.2: under 08P01 the three parts stand one right behind the other, each whole; else the text stays.
func TestRenameParts(t *testing.T) {
	for _, text := range []string{
		"", "a", `"a"`, Missing("a"), Exists("a"), Portal("a"), Cursor("a"),
		`but prepared statement "a" requires `, ` but prepared statement "a" requires `, `, but prepared statement "a" requires`,
		`, but prepared statement "a"  requires `, `, but prepared statement  "a" requires `, `, but prepared statement a requires `,
		`, but prepared statement "a requires `, `, but prepared statement a" requires `, `, but prepared statement "A" requires `,
		`, but prepared statement "a"x requires `, `, but prepared statement x"a" requires `, `, BUT prepared statement "a" requires `,
		` requires "a", but prepared statement `, `, but prepared statement  requires "a"`,
	} {
		checkRename(t, "08P01", text, "a", "b", text)
	}
}

// P9.2: a name that has marks or parts of the text is renamed as a whole.
func TestRenameMarks(t *testing.T) {
	checkRename(t, "08P01", `, but prepared statement "a"b" requires 1`, `a"b`, "c", `, but prepared statement "c" requires 1`)
	checkRename(t, "08P01", `, but prepared statement "a"b" requires 1`, "a", "c", `, but prepared statement "a"b" requires 1`)
	checkRename(t, "08P01", Arity(1, "a", 2), "a", Arity(3, "a", 4), Arity(1, Arity(3, "a", 4), 2))
	checkRename(t, "08P01", Arity(1, "a", 2), "a", "$0\\1%", Arity(1, "$0\\1%", 2))
}

// P9.2: the first place may lie within a name that has the parts.
func TestRenameWithin(t *testing.T) {
	name := `x", but prepared statement "a" requires 5`
	checkRename(t, "08P01", Arity(1, name, 2), "a", "b", Arity(1, `x", but prepared statement "b" requires 5`, 2))
}

// P9.2: the same name, and no name at all, change nothing.
func TestRenameSame(t *testing.T) {
	for _, code := range codes {
		for _, text := range []string{"", "x", Missing("a"), Exists("a"), Arity(1, "a", 2), Missing(""), Exists(""), Arity(1, "", 2)} {
			checkRename(t, code, text, "a", "a", text)
			checkRename(t, code, text, "", "", text)
			checkRename(t, code, text, "none", "b", text)
		}
	}
}
