package front

import (
	"remuda/api"
	"remuda/wire"
)

// said answers f with those of its fields alone that its body has.
func said(f api.Front) api.Front {
	s := api.Front{Kind: f.Kind}
	switch f.Kind {
	case 'P':
		s.Name, s.Text, s.OIDs = f.Name, f.Text, f.OIDs
	case 'B':
		s.Portal, s.Name = f.Portal, f.Name
		s.Formats, s.Params, s.Results = f.Formats, f.Params, f.Results
	case 'C', 'D':
		s.What = f.What
		if f.What == ofStmt {
			s.Name = f.Name
		} else {
			s.Portal = f.Portal
		}
	case 'E':
		s.Portal, s.Max = f.Portal, f.Max
	case 'Q':
		s.Text = f.Text
	}
	return s
}

// rightWhat tells whether a C or a D says what it speaks of.
func rightWhat(f api.Front) bool {
	return f.Kind != 'C' && f.Kind != 'D' || f.What == ofStmt || f.What == ofPortal
}

// rightLists tells whether lists are no longer than may be, and what they hold may be said.
func rightLists(f api.Front) bool {
	return max(len(f.OIDs), len(f.Formats), len(f.Results), len(f.Params)) <= api.MaxCount &&
		wire.Unsigned(oidSize, f.OIDs...) &&
		wire.Unsigned(formatSize, f.Formats...) &&
		wire.Unsigned(formatSize, f.Results...) &&
		wire.RightCells(f.Params...)
}
