package fix

import (
	"bytes"
	"strings"
	"testing"

	"remuda/api"
	"remuda/back"
	"remuda/fault"
	"remuda/tell"
)

// pair are what a server and a client call a statement.
type pair struct{ from, to string }

// pairs are some of these, alike ones too.
func pairs() []pair {
	var list []pair
	names := []string{"", "a", "_none", "_dup", "_p1", "_p2147483648", `a"b`, `" requires `, "\xff", strings.Repeat("n", 1000)}
	for _, from := range names {
		for _, to := range names {
			list = append(list, pair{from, to})
		}
	}
	return list
}

// renames is the entry of a message that a server got with from in the place of to.
func (p pair) renames() api.Entry {
	return api.Entry{Kind: api.EntBind, From: p.from, To: p.to}
}

// text is M's text of b.
func text(b api.Back) string {
	s, _ := fault.Get(b.Fields, 'M')
	return s
}

// plain are messages of every kind but E.
func plain() []api.Back {
	return []api.Back{
		{Kind: 'R'}, {Kind: 'S', Name: "_p1", Value: "_p1"}, {Kind: 'K', N: 1, M: 2}, {Kind: 'Z', Status: 'T'},
		{Kind: '1'}, {Kind: '2'}, {Kind: '3'}, {Kind: 'n'}, {Kind: 's'}, {Kind: 'I'}, {Kind: 'C', Tag: "SELECT 1"},
		{Kind: 'D', Row: []api.Cell{{Bytes: []byte("_p1")}, {Null: true}, {}}},
		{Kind: 'T', Cols: []api.Col{{Name: "_p1", OID: 25, Size: -1, Mod: -1}}}, {Kind: 't', OIDs: []int{23, 25}},
		{Kind: 'N', Fields: fault.Make("NOTICE", "26000", tell.Missing("_p1"))},
	}
}

// P25.1: a fault that says something of the name From says it of To; its other fields stay.
func TestRenamed(t *testing.T) {
	for _, p := range pairs() {
		for _, c := range []struct{ code, of, want string }{
			{"26000", tell.Missing(p.from), tell.Missing(p.to)},
			{"42P05", tell.Exists(p.from), tell.Exists(p.to)},
			{"08P01", tell.Arity(1, p.from, 2), tell.Arity(1, p.to, 2)},
		} {
			b := fault.Error(c.code, c.of)
			b.Fields = append(b.Fields, api.Field{Code: 'D', Text: c.of}, api.Field{Code: 'M', Text: c.of})
			want := fault.With(b.Fields, 'M', c.want)
			got := Back(p.renames(), b)
			if !back.Same(got, api.Back{Kind: 'E', Fields: want}) {
				t.Errorf("%.60q of %.20q, to %.20q: %.300q", c.of, p.from, p.to, got.Fields)
			}
		}
	}
}

// P25.1: the code is that of the first C, and the text that of the first M, wherever they stand.
func TestFirstFields(t *testing.T) {
	e := pair{"_none", "a"}.renames()
	missing, exists := tell.Missing("_none"), tell.Exists("_none")
	for _, c := range []struct{ fields, want []api.Field }{
		{
			[]api.Field{{Code: 'M', Text: missing}, {Code: 'C', Text: "26000"}},
			[]api.Field{{Code: 'M', Text: tell.Missing("a")}, {Code: 'C', Text: "26000"}},
		}, {
			[]api.Field{{Code: 'C', Text: "26000"}, {Code: 'C', Text: "42P05"}, {Code: 'M', Text: missing}, {Code: 'M', Text: missing}},
			[]api.Field{{Code: 'C', Text: "26000"}, {Code: 'C', Text: "42P05"}, {Code: 'M', Text: tell.Missing("a")}, {Code: 'M', Text: missing}},
		}, {
			[]api.Field{{Code: 'C', Text: "42P05"}, {Code: 'C', Text: "26000"}, {Code: 'M', Text: exists}, {Code: 'M', Text: missing}},
			[]api.Field{{Code: 'C', Text: "42P05"}, {Code: 'C', Text: "26000"}, {Code: 'M', Text: tell.Exists("a")}, {Code: 'M', Text: missing}},
		},
	} {
		if got := Back(e, api.Back{Kind: 'E', Fields: c.fields}); !back.Same(got, api.Back{Kind: 'E', Fields: c.want}) {
			t.Errorf("%q is told as %q", c.fields, got.Fields)
		}
	}
}

// P25.1: a fault without a C, without an M, with another name, or another code, stays.
func TestOtherFaults(t *testing.T) {
	e := pair{"_none", "a"}.renames()
	missing := tell.Missing("_none")
	for _, l := range [][]api.Field{
		nil,
		{{Code: 'C', Text: "26000"}},
		{{Code: 'M', Text: missing}},
		{{Code: 'c', Text: "26000"}, {Code: 'M', Text: missing}},
		{{Code: 'C', Text: "26000"}, {Code: 'm', Text: missing}},
		{{Code: 'C', Text: "26000"}, {Code: 'D', Text: missing}},
		fault.Make("ERROR", "42P05", missing),
		fault.Make("ERROR", "34000", missing),
		fault.Make("ERROR", "", missing),
		fault.Make("ERROR", "26000", tell.Exists("_none")),
		fault.Make("ERROR", "26000", tell.Missing("_dup")),
		fault.Make("ERROR", "26000", tell.Missing("")),
		fault.Make("ERROR", "26000", tell.Portal("_none")),
		fault.Make("ERROR", "26000", missing+" "),
		fault.Make("ERROR", "42601", "syntax error"),
	} {
		if got := Back(e, api.Back{Kind: 'E', Fields: l}); !back.Same(got, api.Back{Kind: 'E', Fields: l}) {
			t.Errorf("%q is told as %q", l, got.Fields)
		}
	}
}

// P25.1: names that are the same change nothing; so does an entry without names.
func TestSameNames(t *testing.T) {
	for _, name := range []string{"", "a", "_none"} {
		b := fault.Error("26000", tell.Missing(name))
		if got := Back(pair{name, name}.renames(), b); !back.Same(got, b) {
			t.Errorf("%q to itself: %q", name, got.Fields)
		}
		if got := Back(api.Entry{}, b); !back.Same(got, b) {
			t.Errorf("of no names: %q", got.Fields)
		}
	}
}

// P25.1: the kind of the entry, and what becomes of names, count for nothing.
func TestAnyEntry(t *testing.T) {
	b := fault.Error("26000", tell.Missing("_none"))
	ops := []api.TableOp{{Set: true, Name: "_none", ID: 1}}
	for kind := range api.EntSynth + 2 {
		e := api.Entry{Kind: kind, From: "_none", To: "a", Good: ops, Bad: ops, Cache: []api.CacheOp{{Kind: api.CacheAdd, ID: 1}}, Reply: []byte("r")}
		if got := text(Back(e, b)); got != tell.Missing("a") {
			t.Errorf("of the kind %d: %q", kind, got)
		}
	}
}

// P25.2: what is no fault stays, whatever it has.
func TestNoFault(t *testing.T) {
	e := pair{"_p1", "a"}.renames()
	for _, b := range append(plain(), api.Back{}, api.Back{Kind: 'e', Fields: fault.Make("ERROR", "26000", tell.Missing("_p1"))}) {
		if got := Back(e, b); !back.Same(got, b) {
			t.Errorf("%+v is told as %+v", b, got)
		}
	}
	// A fault, too, keeps what it should not have.
	b := plain()[11]
	b.Kind, b.Fields, b.OIDs, b.Cols, b.Tag, b.N = 'E', fault.Make("ERROR", "26000", tell.Missing("_p1")), []int{1}, []api.Col{{Name: "c"}}, "tag", 7
	want := b
	want.Fields = fault.Make("ERROR", "26000", tell.Missing("a"))
	if got := Back(e, b); !back.Same(got, want) {
		t.Errorf("%+v is told as %+v", b, got)
	}
}

// P25.1: Shown answers the bytes of what is told, and none, if it is hidden.
func TestShown(t *testing.T) {
	e := pair{"_none", "a"}.renames()
	hidden := e
	hidden.Hide = true
	for _, b := range append(plain(), fault.Error("26000", tell.Missing("_none")), fault.Error("42601", "syntax error")) {
		want := back.Bytes(Back(e, b))
		if got := Shown(e, b); len(got) == 0 || !bytes.Equal(got, want) {
			t.Errorf("%+v is shown as %q", b, got)
		}
		if got := Shown(hidden, b); len(got) != 0 {
			t.Errorf("%+v, hidden, is shown as %q", b, got)
		}
		if got := Back(hidden, b); !back.Same(got, Back(e, b)) {
			t.Errorf("%+v, hidden, is told as %+v", b, got)
		}
	}
	if got, want := Shown(e, fault.Error("26000", tell.Missing("_none"))), back.Bytes(fault.Error("26000", tell.Missing("a"))); !bytes.Equal(got, want) {
		t.Errorf("the fault is shown as %q", got)
	}
	if got := Shown(api.Entry{}, api.Back{Kind: 'Z', Status: 'I'}); string(got) != "Z\x00\x00\x00\x05I" {
		t.Errorf("Z is shown as %q", got)
	}
}

// P25.1: what may not be said has no bytes, a renamed fault neither.
func TestNotShown(t *testing.T) {
	for _, b := range []api.Back{{}, {Kind: 'e'}, {Kind: 'Z'}, {Kind: '1', N: 1}, {Kind: 'C', Tag: "\x00"}} {
		if got := Shown(api.Entry{}, b); len(got) != 0 {
			t.Errorf("%+v is shown as %q", b, got)
		}
	}
	if got := Shown(pair{"_none", "\x00"}.renames(), fault.Error("26000", tell.Missing("_none"))); len(got) != 0 {
		t.Errorf("a name with a byte 0 is shown as %q", got)
	}
}

// R3: nothing that is handed in is changed, and nothing that is answered is shared with it, spare room neither.
func TestNothingShared(t *testing.T) {
	for _, p := range []pair{{"_none", "a"}, {"a", "a"}} {
		for _, kind := range []byte{'E', 'D', 'N'} {
			b := api.Back{Kind: kind, Fields: make([]api.Field, 0, 8), OIDs: make([]int, 2, 4), Cols: make([]api.Col, 1, 2), Row: []api.Cell{{Bytes: make([]byte, 1, 2)}}}
			b.Fields = append(b.Fields, fault.Make("ERROR", "26000", tell.Missing("_none"))...)
			got := Back(p.renames(), b)
			spoil(got)
			if text(b) != tell.Missing("_none") || b.Fields[0].Text != "ERROR" || b.OIDs[0] != 0 || b.Cols[0].Name != "" || b.Row[0].Null || b.Row[0].Bytes[0] != 0 {
				t.Errorf("of %q %+v, %+v is left", kind, p, b)
			}
			if b.Fields[:5][4].Code != 0 || b.OIDs[:3][2] != 0 || b.Cols[:2][1].Name != "" || b.Row[0].Bytes[:2][1] != 0 {
				t.Errorf("of %q %+v, the spare room is changed", kind, p)
			}
		}
	}
}

// spoil changes all that b has, and what may stand behind its lists.
func spoil(b api.Back) {
	for i := range b.Fields {
		b.Fields[i] = api.Field{}
	}
	_ = append(b.Fields, api.Field{Code: 'x'})
	b.OIDs[0] = 9
	_ = append(b.OIDs, 9)
	b.Cols[0].Name = "spoilt"
	_ = append(b.Cols, api.Col{Name: "spoilt"})
	b.Row[0].Bytes[0] = 9
	_ = append(b.Row[0].Bytes, 9)
	b.Row[0].Null = true
}
