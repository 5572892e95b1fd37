package wire

import (
	"bytes"
	"slices"

	"remuda/api"
	"remuda/digits"
	"remuda/num"
)

// mostCell is how many bytes a cell may have.
const mostCell = 1 << 20

// Clean tells whether no text has a byte 0, which would end it.
func Clean(texts ...string) bool {
	return !slices.ContainsFunc(texts, func(s string) bool { return !digits.Clean(s) })
}

// Unsigned tells whether size bytes hold each number, without a sign.
func Unsigned(size int, list ...int) bool {
	return !slices.ContainsFunc(list, func(n int) bool {
		return n < 0 || !num.Right(n, size)
	})
}

// Signed tells whether size bytes hold each number, with a sign.
func Signed(size int, list ...int) bool {
	return !slices.ContainsFunc(list, func(n int) bool {
		return !num.Right(n, size) || num.Signed(n, size) != n
	})
}

// RightCells tells whether each cell may be said.
func RightCells(cells ...api.Cell) bool {
	return !slices.ContainsFunc(cells, func(c api.Cell) bool {
		return len(c.Bytes) > mostCell || c.Null && len(c.Bytes) > 0
	})
}

// SameCells tells whether the cells of a and of b are the same.
func SameCells(a, b []api.Cell) bool {
	return slices.EqualFunc(a, b, func(x, y api.Cell) bool {
		return x.Null == y.Null && bytes.Equal(x.Bytes, y.Bytes)
	})
}

// CopyCells answers the cells with bytes of their own.
func CopyCells(l []api.Cell) []api.Cell {
	cells := slices.Clone(l)
	for i := range cells {
		cells[i].Bytes = slices.Clone(cells[i].Bytes)
	}
	return cells
}
