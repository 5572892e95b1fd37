package cols

import (
	"math"
	"slices"
	"strconv"
	"strings"
	"testing"

	"remuda/api"
	"remuda/back"
)

// held are numbers, each with how many columns and rows are made of it.
var held = [][2]int{
	{math.MinInt, 0}, {-1000, 0}, {-1, 0}, {0, 0}, {1, 1}, {2, 2}, {9, 9}, {10, 10}, {11, 11}, {100, 100},
	{999, 999}, {1000, 1000}, {1001, 1000}, {65536, 1000}, {math.MaxInt, 1000},
}

// P10.1: Cols answers that many columns, held from 0 to 1000, each with its own name, and alike in all else.
func TestCols(t *testing.T) {
	for _, h := range held {
		l := Cols(h[0])
		if len(l) != h[1] {
			t.Fatalf("Cols(%d) has %d", h[0], len(l))
		}
		for i, c := range l {
			want := api.Col{Name: "c" + strconv.Itoa(i+1), Table: 0, Attr: 0, OID: 25, Size: -1, Mod: -1, Format: 0}
			if c != want {
				t.Fatalf("column %d of Cols(%d) is %+v", i, h[0], c)
			}
		}
	}
}

// P10.1: Describe answers a T with Cols, and nothing else.
func TestDescribe(t *testing.T) {
	for _, h := range held {
		b := Describe(h[0])
		if !back.Same(b, api.Back{Kind: 84, Cols: Cols(h[0])}) || len(b.Cols) != h[1] {
			t.Errorf("Describe(%d) is %.200v", h[0], b)
		}
		if e := back.Check(b); e != api.OK {
			t.Errorf("Check of Describe(%d) is %d", h[0], e)
		}
	}
}

// P10.1, P10.2: Rows answers as many rows as are asked for, held from 0 to 1000, of one cell each, with its own number.
func TestRows(t *testing.T) {
	for _, h := range held {
		l := Rows(h[0])
		if len(l) != h[1] {
			t.Fatalf("Rows(%d) has %d", h[0], len(l))
		}
		for i, r := range l {
			if len(r) != 1 || r[0].Null || string(r[0].Bytes) != strconv.Itoa(i+1) {
				t.Fatalf("row %d of Rows(%d) is %v", i, h[0], r)
			}
		}
	}
}

// cells are some of each sort: with bytes, without, none, and one that may not be said.
func cells() []api.Cell {
	return []api.Cell{
		{Bytes: []byte("ab")}, {}, {Bytes: []byte{}}, {Null: true}, {Bytes: []byte{0, 255}}, {Null: true, Bytes: []byte("x")},
		{Bytes: []byte(strings.Repeat("long", 1000))},
	}
}

func sameCell(a, b api.Cell) bool {
	return a.Null == b.Null && string(a.Bytes) == string(b.Bytes)
}

// P10.1: Row answers a D with the cells, as they are, and nothing else.
func TestRow(t *testing.T) {
	for n := range len(cells()) + 1 {
		l := cells()[:n]
		if b := Row(l); !back.Same(b, api.Back{Kind: 68, Row: l}) {
			t.Errorf("Row(%.100v) is %.200v", l, b)
		}
	}
	for _, l := range [][]api.Cell{nil, {}} {
		if b := Row(l); !back.Same(b, api.Back{Kind: 'D'}) || back.Check(b) != api.OK {
			t.Errorf("Row of no cells is %v", b)
		}
	}
}

// P10.1: Row holds no cell back, however many there are.
func TestRowMany(t *testing.T) {
	for _, n := range []int{1000, 1001, api.MaxCount, api.MaxCount + 1} {
		l := make([]api.Cell, n)
		l[n-1].Bytes = []byte("last")
		if b := Row(l); !back.Same(b, api.Back{Kind: 'D', Row: l}) {
			t.Errorf("Row of %d cells has %d", n, len(b.Row))
		}
	}
}

// P10.1: what Row is handed stays, its spare room included, and is not shared with the answer, nor are the cells' bytes.
func TestRowApart(t *testing.T) {
	room := cells()
	room[0].Bytes = room[0].Bytes[:1]
	b := Row(room[:2])
	_ = append(b.Row, api.Cell{Null: true})
	for i := range b.Row {
		_ = append(b.Row[i].Bytes, 'y')
		for k := range b.Row[i].Bytes {
			b.Row[i].Bytes[k] = 'z'
		}
		b.Row[i] = api.Cell{Null: true}
	}
	want := cells()
	if whole := room[0].Bytes[:2]; string(whole) != "ab" {
		t.Errorf("Row left the bytes %q", whole)
	}
	room[0].Bytes = room[0].Bytes[:2]
	if !slices.EqualFunc(room, want, sameCell) {
		t.Errorf("Row left %.100v", room)
	}
}

// P10.1: what is answered may be changed: later answers, and other rows, do not see it.
func TestApart(t *testing.T) {
	clear(Cols(3))
	clear(Describe(3).Cols)
	rows := Rows(3)
	_ = append(rows[0], api.Cell{Null: true})
	_ = append(rows[0][0].Bytes, 'y')
	rows[0][0].Bytes[0] = 'z'
	for _, l := range [][][]api.Cell{rows[1:], Rows(3)[1:]} {
		if len(l) != 2 || string(l[0][0].Bytes) != "2" || string(l[1][0].Bytes) != "3" {
			t.Errorf("rows are %v later", l)
		}
	}
	if s := string(Rows(1)[0][0].Bytes); s != "1" {
		t.Errorf("the first row is %q later", s)
	}
	if l := Cols(3); l[0].Name != "c1" || l[2].Name != "c3" || !slices.Equal(l, Describe(3).Cols) {
		t.Errorf("columns are %v later", l)
	}
}

// P10.1: Tag tells the number as it is, also where no so many rows are made.
func TestTag(t *testing.T) {
	for _, c := range []struct {
		n    int
		want string
	}{
		{0, "SELECT 0"}, {1, "SELECT 1"}, {10, "SELECT 10"}, {1000, "SELECT 1000"}, {1001, "SELECT 1001"},
		{-1, "SELECT -1"}, {math.MaxInt, "SELECT 9223372036854775807"}, {math.MinInt, "SELECT -9223372036854775808"},
	} {
		if s := Tag(c.n); s != c.want {
			t.Errorf("Tag(%d) is %q", c.n, s)
		}
	}
}
