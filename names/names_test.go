package names

import (
	"math"
	"strconv"
	"strings"
	"testing"
)

// mostNamed is the highest id that has a name, as the chapter says.
const mostNamed = 2147483648

// ids are ids that have a name: low ones, those about the tens, and those about the highest.
func ids() []int {
	var l []int
	for id := 1; id <= 3000; id++ {
		l = append(l, id)
	}
	for tens := 10000; tens < mostNamed; tens *= 10 {
		l = append(l, tens-1, tens, tens+1)
	}
	return append(l, 1<<16, 1<<30, mostNamed-2, mostNamed-1, mostNamed)
}

// P13.1: Server answers "_p" and the id's digits, and ID that id.
func TestServer(t *testing.T) {
	for _, c := range []struct {
		id   int
		want string
	}{
		{1, "_p1"}, {9, "_p9"}, {10, "_p10"}, {12, "_p12"}, {105, "_p105"}, {65536, "_p65536"},
		{2147483646, "_p2147483646"}, {2147483647, "_p2147483647"}, {2147483648, "_p2147483648"},
	} {
		if got := Server(c.id); got != c.want {
			t.Errorf("Server(%d) is %q", c.id, got)
		}
		if id, ok := ID(c.want); id != c.id || !ok {
			t.Errorf("ID(%q) is %d, %v", c.want, id, ok)
		}
	}
	for _, id := range ids() {
		name := Server(id)
		if name != "_p"+strconv.Itoa(id) {
			t.Fatalf("Server(%d) is %q", id, name)
		}
		if got, ok := ID(name); got != id || !ok {
			t.Fatalf("ID(%q) is %d, %v", name, got, ok)
		}
		if !Own(name) {
			t.Fatalf("Own(%q) is false", name)
		}
	}
}

// P13.1: ids below 1, and above 2^31, have no name.
func TestServerNone(t *testing.T) {
	for _, id := range []int{0, -1, -2, -12, math.MinInt32, -mostNamed, -mostNamed - 1, math.MinInt, mostNamed + 1, mostNamed + 2, 1 << 32, 1<<32 + 1, 9999999999, 10000000000, math.MaxInt} {
		if got := Server(id); got != "" {
			t.Errorf("Server(%d) is %q", id, got)
		}
		name := "_p" + strconv.Itoa(id)
		if got, ok := ID(name); got != 0 || ok {
			t.Errorf("ID(%q) is %d, %v", name, got, ok)
		}
		if Own(name) {
			t.Errorf("Own(%q) is true", name)
		}
	}
}

// strangers are names that are no statement's, nor the pooler's own.
func strangers() []string {
	return []string{
		"", "_", "p", "_p", "a", "1", "12", "p1", "p12", "_1", "P1", "_P1", "_P12", "-p1", "__p1", " _p1", "_ p1", "a_p1", "\x00_p1", "_p_p1", "_q1", "_o1",
		"_p0", "_p00", "_p01", "_p07", "_p007", "_p0000000001", "_p00000000012", "_p-1", "_p-0", "_p+1", "_p 1", "_p1 ", "_p1a", "_pa", "_p1.0", "_p1_", "_p0x1", "_p1\x00", "_p\x001", "_p\uff11", "_p\xff",
		"_p2147483649", "_p4294967297", "_p9999999999", "_p10000000000", "_p21474836480", "_p18446744073709551617", "_p" + strings.Repeat("1", 5000),
		"_du", "_dupp", "_dup ", " _dup", "dup", "_Dup", "_DUP", "_dup\x00", "_dup1", "_p_dup",
		"_non", "_nonee", "_none ", " _none", "none", "_None", "_NONE", "_none\x00", "_none1", "_p_none", "_dup_none",
	}
}

// P13.1: ID of what is no statement's name is 0, false, and Own is false of it.
func TestStrangers(t *testing.T) {
	for _, name := range strangers() {
		if id, ok := ID(name); id != 0 || ok {
			t.Errorf("ID(%.50q) is %d, %v", name, id, ok)
		}
		if Own(name) {
			t.Errorf("Own(%.50q) is true", name)
		}
	}
}

// P13.1: of all short texts, just those are names of statements that are "_p" and digits, without noughts ahead.
func TestShort(t *testing.T) {
	right := map[string]int{}
	for id := 1; id < 1000; id++ {
		right["_p"+strconv.Itoa(id)] = id
	}
	var walk func(name string)
	walk = func(name string) {
		id, ok := ID(name)
		if id != right[name] || ok != (id > 0) || Own(name) != ok {
			t.Fatalf("ID(%q) is %d, %v, Own %v", name, id, ok, Own(name))
		}
		if len(name) < 5 {
			for _, c := range []string{"_", "p", "0", "1", "9", "/", ":"} {
				walk(name + c)
			}
		}
	}
	walk("")
}

// P13.1: Dup and None are the pooler's own, without an id.
func TestFixed(t *testing.T) {
	if Dup() != "_dup" || None() != "_none" {
		t.Errorf("%q, %q", Dup(), None())
	}
	for _, name := range []string{Dup(), None()} {
		if !Own(name) {
			t.Errorf("Own(%q) is false", name)
		}
		if id, ok := ID(name); id != 0 || ok {
			t.Errorf("ID(%q) is %d, %v", name, id, ok)
		}
	}
}

// P13.2: no two ids have one name, and none is Dup or None.
func TestNamesApart(t *testing.T) {
	seen := map[string]int{Dup(): -1, None(): -2}
	if len(seen) != 2 {
		t.Fatal("Dup is None")
	}
	for _, id := range ids() {
		name := Server(id)
		if other, ok := seen[name]; ok && other != id {
			t.Fatalf("%d and %d have the name %q", other, id, name)
		}
		seen[name] = id
	}
}
