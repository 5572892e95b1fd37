package front

import (
	"remuda/api"
	"remuda/num"
	"remuda/scan"
)

// body answers the bytes of f, which may be said.
func body(f api.Front) []byte {
	var b []byte
	switch f.Kind {
	case 'P':
		b = putTexts(b, f.Name, f.Text)
		b = putNumbers(b, oidSize, f.OIDs)
	case 'B':
		b = putTexts(b, f.Portal, f.Name)
		b = putNumbers(b, formatSize, f.Formats)
		b = putCells(b, f.Params)
		b = putNumbers(b, formatSize, f.Results)
	case 'C', 'D':
		b = append(b, f.What)
		// The one that f does not speak of is empty.
		b = putTexts(b, f.Name+f.Portal)
	case 'E':
		b = putTexts(b, f.Portal)
		b = putNumber(b, maxSize, f.Max)
	case 'Q':
		b = putTexts(b, f.Text)
	}
	return b
}

func putTexts(b []byte, texts ...string) []byte {
	for _, s := range texts {
		b = append(append(b, s...), 0)
	}
	return b
}

// putNumber writes behind b, which is the body's own: num.Put would copy all of it for each number.
func putNumber(b []byte, size, n int) []byte {
	return append(b, num.Put(nil, n, size)...)
}

func putNumbers(b []byte, size int, list []int) []byte {
	b = putNumber(b, countSize, len(list))
	for _, n := range list {
		b = putNumber(b, size, n)
	}
	return b
}

func putCells(b []byte, list []api.Cell) []byte {
	b = putNumber(b, countSize, len(list))
	for _, c := range list {
		if c.Null {
			b = putNumber(b, cellSize, nullCell)
			continue
		}
		b = putNumber(b, cellSize, len(c.Bytes))
		b = append(b, c.Bytes...)
	}
	return b
}

// reader is a body that is read.
type reader struct {
	*scan.Scan
}

func (r reader) front(kind byte) api.Front {
	f := api.Front{Kind: kind}
	switch kind {
	case 'P':
		f.Name = r.Text()
		f.Text = r.Text()
		f.OIDs = r.numbers(oidSize)
	case 'B':
		f.Portal = r.Text()
		f.Name = r.Text()
		f.Formats = r.numbers(formatSize)
		f.Params = r.cells()
		f.Results = r.numbers(formatSize)
	case 'C', 'D':
		f.What = byte(r.Num(1))
		if f.What == ofStmt {
			f.Name = r.Text()
		} else {
			f.Portal = r.Text()
		}
	case 'E':
		f.Portal = r.Text()
		f.Max = num.Signed(r.Num(maxSize), maxSize)
	case 'Q':
		f.Text = r.Text()
	}
	return f
}

func (r reader) numbers(size int) []int {
	var list []int
	for range r.Num(countSize) {
		// What is counted need not be there.
		if r.Bad() {
			return nil
		}
		list = append(list, r.Num(size))
	}
	return list
}

func (r reader) cells() []api.Cell {
	var list []api.Cell
	for range r.Num(countSize) {
		if r.Bad() {
			return nil
		}
		list = append(list, r.cell())
	}
	return list
}

func (r reader) cell() api.Cell {
	size := r.Num(cellSize)
	if size == nullCell {
		return api.Cell{Null: true}
	}
	return api.Cell{Bytes: r.Take(size)}
}
