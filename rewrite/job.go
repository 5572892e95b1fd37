package rewrite

import (
	"slices"

	"remuda/api"
	"remuda/back"
	"remuda/entry"
	"remuda/inject"
	"remuda/names"
	"remuda/over"
	"remuda/reg"
	"remuda/table"
	"remuda/wire"
)

// job is a client's message, with all on which hangs what a server is told of it.
type job struct {
	api.Front
	statements *reg.Registry
	table      *table.Table
	coming     []api.Entry
	spec       []int
	most       int
}

// parse has a statement prepared that the client gives a name.
func (j job) parse() ([]api.Front, []api.Entry) {
	if _, known := j.known(); known && j.Name != "" {
		return j.fail(names.Dup())
	}
	id := j.statements.Put(api.Stmt{Text: j.Text, OIDs: j.OIDs})
	if id == 0 {
		return nil, nil
	}
	e := api.Entry{Kind: api.EntParse, Good: []api.TableOp{{Set: true, Name: j.Name, ID: id}}}
	if j.Name == "" {
		// A server lets its nameless statement go even where the next one fails.
		e.Bad = deletion("")
	}
	if slices.Contains(j.spec, id) {
		// It is there, but the client is still to hear whether it goes now.
		e.Cache = ops(api.CacheTouch, id)
		return j.told("", nil, nil, e)
	}
	e.Cache = ops(api.CacheAdd, id)
	fronts, entries := inject.Room(j.spec, j.most)
	return j.told(names.Server(id), fronts, entries, e)
}

// use has a statement bound, or described.
func (j job) use() ([]api.Front, []api.Entry) {
	id, known := j.known()
	if !known {
		return j.fail(names.None())
	}
	s, _ := j.statements.Get(id)
	fronts, entries := inject.Ready(j.spec, j.most, id, s)
	e := j.renamed(names.Server(id))
	e.Cache = ops(api.CacheTouch, id)
	return j.told(e.From, fronts, entries, e)
}

// close has a name taken away, which the pooler can say of its own.
func (j job) close() ([]api.Front, []api.Entry) {
	said := back.Bytes(api.Back{Kind: closed})
	return nil, []api.Entry{{Kind: api.EntSynth, Good: deletion(j.Name), Reply: said}}
}

// plain has the message told as it is.
func (j job) plain() ([]api.Front, []api.Entry) {
	fronts := []api.Front{j.Front}
	e := api.Entry{Kind: entry.Kind(j.Front)}
	switch j.Kind {
	case kindFlush:
		return fronts, nil
	case kindQuery:
		e.Good = deletion("")
	}
	return fronts, []api.Entry{e}
}

// fail has the message told with a name by which it fails, so that the server says what is wrong.
func (j job) fail(name string) ([]api.Front, []api.Entry) {
	return j.told(name, nil, nil, j.renamed(name))
}

// told answers the message under this name with its entry e, behind what is told ahead of it.
func (j job) told(name string, fronts []api.Front, entries []api.Entry, e api.Entry) ([]api.Front, []api.Entry) {
	f := j.Front
	f.Name = name
	entries = append(entries, e)
	j.refer(entries)
	return append(fronts, f), entries
}

// refer notes that the server refers to what it gets; that a name does was noted when the statement was put.
func (j job) refer(entries []api.Entry) {
	for _, e := range entries {
		for _, op := range e.Cache {
			if op.Kind == api.CacheAdd {
				j.statements.Ref(op.ID)
			}
		}
	}
}

// known answers the id that the message's name will have.
func (j job) known() (int, bool) {
	return over.Lookup(j.table, j.coming, j.Name)
}

// renamed answers the entry of the message that a server knows by this name.
func (j job) renamed(name string) api.Entry {
	return api.Entry{Kind: entry.Kind(j.Front), From: name, To: j.Name}
}

// copied answers f with lists of its own.
func copied(f api.Front) api.Front {
	f.OIDs = slices.Clone(f.OIDs)
	f.Formats = slices.Clone(f.Formats)
	f.Results = slices.Clone(f.Results)
	f.Params = wire.CopyCells(f.Params)
	return f
}

// deletion answers that name is taken away.
func deletion(name string) []api.TableOp {
	return []api.TableOp{{Name: name}}
}

// ops answers what becomes of the statement with this id, alone.
func ops(kind, id int) []api.CacheOp {
	return []api.CacheOp{{Kind: kind, ID: id}}
}
