package wire

import (
	"remuda/api"
	"remuda/scan"
)

// Reader is a body that is read.
type Reader struct {
	*scan.Scan
}

// Read begins to read a body.
func Read(b []byte) Reader {
	return Reader{scan.New(b)}
}

// ReadList reads how many a list has, and has each read every one.
func ReadList[T any](r Reader, each func() T) []T {
	var list []T
	for range r.Num(countSize) {
		list = append(list, each())
		// What is counted need not be there.
		if r.Bad() {
			return nil
		}
	}
	return list
}

// Numbers reads a list of numbers of size bytes.
func (r Reader) Numbers(size int) []int {
	return ReadList(r, func() int { return r.Num(size) })
}

// Cells reads a list of cells.
func (r Reader) Cells() []api.Cell {
	return ReadList(r, r.cell)
}

func (r Reader) cell() api.Cell {
	length := r.Num(lengthSize)
	if length == nullLength {
		return api.Cell{Null: true}
	}
	return api.Cell{Bytes: r.Take(length)}
}
