package wire

import (
	"math"
	"strings"
	"testing"

	"remuda/api"
)

// cells are some that may be said, and their list's bytes.
func cells() ([]api.Cell, string) {
	return []api.Cell{{Bytes: []byte("ab")}, {Null: true}, {}}, "\x00\x03\x00\x00\x00\x02ab\xff\xff\xff\xff\x00\x00\x00\x00"
}

// Texts end with a byte 0 each, lists begin with how many they have.
func TestWritten(t *testing.T) {
	list, bytes := cells()
	for _, c := range []struct {
		got  []byte
		want string
	}{
		{Texts(), ""},
		{Texts(""), "\x00"},
		{Texts("a", "", "bc"), "a\x00\x00bc\x00"},
		{Numbers(2, nil), "\x00\x00"},
		{Numbers(2, []int{258, -1}), "\x00\x02\x01\x02\xff\xff"},
		{Numbers(4, make([]int, 258)), "\x01\x02" + strings.Repeat("\x00", 4*258)},
		{Cells(nil), "\x00\x00"},
		{Cells(list), bytes},
		{List([]string{"x", "yz"}, func(s string) []byte { return []byte(s) }), "\x00\x02xyz"},
	} {
		if string(c.got) != c.want {
			t.Errorf("%.200q, not %.200q", c.got, c.want)
		}
	}
}

// What is written is read again.
func TestRead(t *testing.T) {
	list, bytes := cells()
	r := Read([]byte(bytes + "\x00\x02\x01\x02\xff\xff" + "\x00\x02a\x00b\x00"))
	if got := r.Cells(); !SameCells(got, list) {
		t.Errorf("the cells are %v", got)
	}
	if got := r.Numbers(2); len(got) != 2 || got[0] != 258 || got[1] != 65535 {
		t.Errorf("the numbers are %v", got)
	}
	if got := ReadList(r, r.Text); len(got) != 2 || got[0] != "a" || got[1] != "b" || !r.Done() {
		t.Errorf("the texts are %v", got)
	}
}

// A list that has less than it counts is none, and is not gone through to its end.
func TestReadShort(t *testing.T) {
	for _, body := range []string{"", "\x00", "\xff\xffa\x00b"} {
		r := Read([]byte(body))
		times := 0
		got := ReadList(r, func() string {
			times++
			return r.Text()
		})
		if len(got) != 0 || !r.Bad() || times > 2 {
			t.Errorf("of %q: %v, after %d times", body, got, times)
		}
	}
	for _, body := range []string{"", "\x00", "\x00\x01", "\x00\x01\x00\x00\x00", "\x00\x02\x00\x00\x00\x00\x00\x00\x00"} {
		if r := Read([]byte(body)); len(r.Numbers(4)) != 0 || !r.Bad() {
			t.Errorf("%q has numbers", body)
		}
		if r := Read([]byte(body)); len(r.Cells()) != 0 || !r.Bad() {
			t.Errorf("%q has cells", body)
		}
	}
	if r := (Reader{}); len(r.Numbers(4)) != 0 || len(r.Cells()) != 0 || !r.Bad() {
		t.Error("what nobody began to read has a list")
	}
}

// Clean holds for all texts, or not at all.
func TestClean(t *testing.T) {
	if !Clean() || !Clean("") || !Clean("a", "\x01\xff") {
		t.Error("texts without a byte 0")
	}
	if Clean("\x00") || Clean("a", "b\x00") || Clean("a\x00", "b") {
		t.Error("texts with a byte 0")
	}
}

// Numbers have the bounds of their size, with a sign or without.
func TestBounds(t *testing.T) {
	if !Unsigned(2) || !Signed(2) {
		t.Error("no numbers")
	}
	for _, size := range []int{1, 2, 4} {
		all := 1 << (8 * size)
		for _, n := range []int{math.MinInt, -all/2 - 1, -all / 2, -1, 0, 1, all/2 - 1, all / 2, all - 1, all, math.MaxInt} {
			if Unsigned(size, 0, n) != (0 <= n && n < all) {
				t.Errorf("Unsigned(%d, %d) is %v", size, n, Unsigned(size, n))
			}
			if Signed(size, 0, n) != (-all/2 <= n && n < all/2) {
				t.Errorf("Signed(%d, %d) is %v", size, n, Signed(size, n))
			}
		}
	}
}

// A cell that is none has no bytes; others have at most 2^20.
func TestRightCells(t *testing.T) {
	if !RightCells() || !RightCells(api.Cell{}, api.Cell{Null: true}, api.Cell{Null: true, Bytes: []byte{}}, api.Cell{Bytes: make([]byte, 1<<20)}) {
		t.Error("cells that may be said")
	}
	for _, c := range []api.Cell{{Null: true, Bytes: []byte{0}}, {Bytes: make([]byte, 1<<20+1)}} {
		if RightCells(api.Cell{}, c) || RightCells(c, api.Cell{}) {
			t.Errorf("a cell of %d bytes", len(c.Bytes))
		}
	}
}

// Copied cells are the same, and share nothing, room behind them included.
func TestCopyCells(t *testing.T) {
	for _, list := range [][]api.Cell{nil, {}, {{}}, {{Null: true}, {Bytes: []byte("ab")}}, append(make([]api.Cell, 0, 4), api.Cell{Bytes: append(make([]byte, 0, 8), "ab"...)})} {
		got := CopyCells(list)
		if !SameCells(got, list) {
			t.Errorf("of %v the copy is %v", list, got)
		}
		for i := range got {
			clear(got[i].Bytes[:cap(got[i].Bytes)])
			got[i].Null = !got[i].Null
		}
		clear(got[:cap(got)])
		for _, c := range list {
			if string(c.Bytes) != "ab" && len(c.Bytes) > 0 {
				t.Errorf("a copied cell is %q", c.Bytes)
			}
		}
	}
}
