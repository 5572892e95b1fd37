package back

import (
	"slices"

	"remuda/api"
	"remuda/wire"
)

// said answers b with those of its fields alone that its body has.
func said(b api.Back) api.Back {
	s := api.Back{Kind: b.Kind}
	switch b.Kind {
	case 'S':
		s.Name, s.Value = b.Name, b.Value
	case 'K':
		s.N, s.M = b.N, b.M
	case 'Z':
		s.Status = b.Status
	case 'C':
		s.Tag = b.Tag
	case 'D':
		s.Row = b.Row
	case 'T':
		s.Cols = b.Cols
	case 't':
		s.OIDs = b.OIDs
	case 'E', 'N':
		s.Fields = b.Fields
	}
	return s
}

// rightStatus tells whether a Z says how a session stands.
func rightStatus(b api.Back) bool {
	return b.Kind != 'Z' || isStatus(b.Status)
}

// rightLists tells whether lists are no longer than may be, and what they hold may be said.
func rightLists(b api.Back) bool {
	return max(len(b.OIDs), len(b.Cols), len(b.Row), len(b.Fields)) <= api.MaxCount &&
		wire.Unsigned(longSize, b.OIDs...) &&
		wire.RightCells(b.Row...) &&
		!slices.ContainsFunc(b.Cols, func(c api.Col) bool { return !rightCol(c) }) &&
		!slices.ContainsFunc(b.Fields, func(f api.Field) bool { return !rightField(f) })
}

func rightCol(c api.Col) bool {
	return wire.Clean(c.Name) &&
		wire.Unsigned(longSize, c.Table, c.OID) &&
		wire.Unsigned(shortSize, c.Attr, c.Format) &&
		wire.Signed(shortSize, c.Size) &&
		wire.Signed(longSize, c.Mod)
}

// rightField tells whether f may be said: a Code of 0 would end the fields.
func rightField(f api.Field) bool {
	return f.Code != 0 && wire.Clean(f.Text)
}
