package front

import (
	"slices"

	"remuda/api"
	"remuda/digits"
	"remuda/num"
)

// said answers f with those of its fields alone that its body has.
func said(f api.Front) api.Front {
	s := api.Front{Kind: f.Kind}
	switch f.Kind {
	case 'P':
		s.Name, s.Text, s.OIDs = f.Name, f.Text, f.OIDs
	case 'B':
		s.Portal, s.Name = f.Portal, f.Name
		s.Formats, s.Params, s.Results = f.Formats, f.Params, f.Results
	case 'C', 'D':
		s.What = f.What
		if f.What == ofStmt {
			s.Name = f.Name
		} else {
			s.Portal = f.Portal
		}
	case 'E':
		s.Portal, s.Max = f.Portal, f.Max
	case 'Q':
		s.Text = f.Text
	}
	return s
}

// rightWhat tells whether a C or a D says what it speaks of.
func rightWhat(f api.Front) bool {
	return f.Kind != 'C' && f.Kind != 'D' || f.What == ofStmt || f.What == ofPortal
}

func rightLists(f api.Front) bool {
	return areUnsigned(f.OIDs, oidSize) && areUnsigned(f.Formats, formatSize) && areUnsigned(f.Results, formatSize) && areCells(f.Params)
}

func areUnsigned(list []int, size int) bool {
	return len(list) <= api.MaxCount && !slices.ContainsFunc(list, func(n int) bool {
		return n < 0 || !num.Right(n, size)
	})
}

func areCells(list []api.Cell) bool {
	return len(list) <= api.MaxCount && !slices.ContainsFunc(list, func(c api.Cell) bool {
		return len(c.Bytes) > mostCell || c.Null && len(c.Bytes) > 0
	})
}

func isSigned(n int) bool {
	return num.Right(n, maxSize) && num.Signed(n, maxSize) == n
}

func clean(texts ...string) bool {
	return !slices.ContainsFunc(texts, func(s string) bool { return !digits.Clean(s) })
}
