package front

import (
	"slices"

	"remuda/api"
	"remuda/num"
	"remuda/wire"
)

// body answers the bytes of f, which may be said.
func body(f api.Front) []byte {
	switch f.Kind {
	case 'P':
		return slices.Concat(wire.Texts(f.Name, f.Text), wire.Numbers(oidSize, f.OIDs))
	case 'B':
		return slices.Concat(wire.Texts(f.Portal, f.Name),
			wire.Numbers(formatSize, f.Formats), wire.Cells(f.Params), wire.Numbers(formatSize, f.Results))
	case 'C', 'D':
		// The one that f does not speak of is empty.
		return append([]byte{f.What}, wire.Texts(f.Name+f.Portal)...)
	case 'E':
		return num.Put(wire.Texts(f.Portal), f.Max, maxSize)
	case 'Q':
		return wire.Texts(f.Text)
	}
	return nil
}

// reader is a client's body that is read.
type reader struct {
	wire.Reader
}

func (r reader) front(kind byte) api.Front {
	f := api.Front{Kind: kind}
	switch kind {
	case 'P':
		f.Name = r.Text()
		f.Text = r.Text()
		f.OIDs = r.Numbers(oidSize)
	case 'B':
		f.Portal = r.Text()
		f.Name = r.Text()
		f.Formats = r.Numbers(formatSize)
		f.Params = r.Cells()
		f.Results = r.Numbers(formatSize)
	case 'C', 'D':
		f.What = byte(r.Num(1))
		if f.What == ofStmt {
			f.Name = r.Text()
		} else {
			f.Portal = r.Text()
		}
	case 'E':
		f.Portal = r.Text()
		f.Max = num.Signed(r.Num(maxSize), maxSize)
	case 'Q':
		f.Text = r.Text()
	}
	return f
}
