package link

import (
	"slices"

	"remuda/api"
	"remuda/cache"
	"remuda/over"
	"remuda/queue"
	"remuda/skip"
	"remuda/table"
)

// done has each of l come about, of a client with the names t, and answers what that client is told of those that no reply is of.
func (x *Link) done(t *table.Table, l ...api.Entry) []byte {
	var said []byte
	for _, e := range l {
		x.apply(t, e)
		x.drop(x.cache.Settle(e.Cache)...)
		if e.Kind == api.EntSynth && !e.Hide {
			said = append(said, e.Reply...)
		}
	}
	return said
}

// apply has names become what they do when e ends well.
func (x *Link) apply(t *table.Table, e api.Entry) {
	had, err := over.Apply(t, e.Good)
	x.drop(had...)
	if err != api.OK {
		// No name refers to them now.
		x.drop(over.IDs([]api.Entry{e})...)
	}
}

// failed has what a fault ended come to nothing, with what will not be done for that.
func (x *Link) failed(t *table.Table, failed, dropped []api.Entry) {
	if len(failed) == 0 {
		return
	}
	for _, e := range failed {
		// It has no error: what fails sets no name.
		had, _ := over.Apply(t, e.Bad)
		x.drop(had...)
	}
	x.drop(pending(slices.Concat(failed, dropped))...)
	x.skip = skip.Failed(x.skip, x.queue.Len())
}

// drop notes that one less refers to each of ids.
func (x *Link) drop(ids ...int) {
	for _, id := range ids {
		x.registry.Drop(id)
	}
}

// empty has nothing be there, with room for most statements, nor be to come.
func (x *Link) empty(most int) {
	// They have no errors: these are bounds that both may have.
	x.cache, _ = cache.New(most)
	x.queue, _ = queue.New(x.room)
	x.skip = skip.Skip{}
}

// pending answers the ids that l refers to: those of names, and then those of what a server is to have.
func pending(l []api.Entry) []int {
	ids := over.IDs(l)
	for _, e := range l {
		for _, op := range e.Cache {
			if op.Kind == api.CacheAdd {
				ids = append(ids, op.ID)
			}
		}
	}
	return ids
}
