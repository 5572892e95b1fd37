package back

import (
	"slices"

	"remuda/api"
	"remuda/num"
	"remuda/wire"
)

// body answers the bytes of b, which may be said.
func body(b api.Back) []byte {
	switch b.Kind {
	case 'R':
		return long(0)
	case 'S':
		return wire.Texts(b.Name, b.Value)
	case 'K':
		return slices.Concat(long(b.N), long(b.M))
	case 'Z':
		return []byte{b.Status}
	case 'C':
		return wire.Texts(b.Tag)
	case 'D':
		return wire.Cells(b.Row)
	case 'T':
		return wire.List(b.Cols, col)
	case 't':
		return wire.Numbers(longSize, b.OIDs)
	case 'E', 'N':
		return fields(b.Fields)
	}
	return nil
}

func short(n int) []byte {
	return num.Put(nil, n, shortSize)
}

func long(n int) []byte {
	return num.Put(nil, n, longSize)
}

func col(c api.Col) []byte {
	return slices.Concat(wire.Texts(c.Name), long(c.Table), short(c.Attr), long(c.OID), short(c.Size), long(c.Mod), short(c.Format))
}

func fields(list []api.Field) []byte {
	var b []byte
	for _, f := range list {
		b = append(b, f.Code)
		b = append(b, wire.Texts(f.Text)...)
	}
	return append(b, 0)
}

// reader is a server's body that is read.
type reader struct {
	wire.Reader
}

// back reads what the body says, and tells whether that is what such a body may say.
func (r reader) back(kind byte) (api.Back, bool) {
	b, right := api.Back{Kind: kind}, true
	switch kind {
	case 'R':
		right = r.Num(longSize) == 0
	case 'S':
		b.Name = r.Text()
		b.Value = r.Text()
	case 'K':
		b.N = r.Num(longSize)
		b.M = r.Num(longSize)
	case 'Z':
		b.Status = byte(r.Num(1))
		right = isStatus(b.Status)
	case 'C':
		b.Tag = r.Text()
	case 'D':
		b.Row = r.Cells()
	case 'T':
		b.Cols = wire.ReadList(r.Reader, r.col)
	case 't':
		b.OIDs = r.Numbers(longSize)
	case 'E', 'N':
		b.Fields = r.fields()
	}
	return b, right
}

func (r reader) col() api.Col {
	c := api.Col{Name: r.Text()}
	c.Table = r.Num(longSize)
	c.Attr = r.Num(shortSize)
	c.OID = r.Num(longSize)
	c.Size = r.signed(shortSize)
	c.Mod = r.signed(longSize)
	c.Format = r.Num(shortSize)
	return c
}

func (r reader) signed(size int) int {
	return num.Signed(r.Num(size), size)
}

// fields reads fields up to a byte 0, which is read, too; a code that can't be had is 0.
func (r reader) fields() []api.Field {
	var list []api.Field
	for code := r.Num(1); code != 0; code = r.Num(1) {
		list = append(list, api.Field{Code: byte(code), Text: r.Text()})
	}
	return list
}
