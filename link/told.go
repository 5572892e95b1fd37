package link

import (
	"remuda/api"
	"remuda/frame"
	"remuda/front"
	"remuda/hello"
	"remuda/skip"
)

// first answers the bytes of the first message.
func first() []byte {
	// It has no error: this is one that may be told.
	b, _ := hello.Build(api.Hello{Code: api.Version, Params: []api.Pair{{Name: "user", Value: "pool"}}})
	return frame.Bytes(api.Msg{Body: b})
}

// told answers the bytes of each of l that may be said, one behind the other.
func told(l ...api.Front) []byte {
	var out []byte
	for _, f := range l {
		if m, e := front.Encode(f); e == api.OK {
			out = append(out, frame.Bytes(m)...)
		}
	}
	return out
}

// await has entries of the pooler's own stand behind all, one of each kind; where there is no room for them, none is to come.
func (x *Link) await(kinds ...int) {
	var l []api.Entry
	for _, kind := range kinds {
		l = append(l, api.Entry{Kind: kind, Hide: true})
	}
	x.queue.Push(l...)
}

// sent notes that messages of these kinds were sent.
func (x *Link) sent(kinds ...byte) {
	for _, kind := range kinds {
		x.skip = skip.Sent(x.skip, kind)
	}
}

// ready notes what a Z said; of other replies the status is 0.
func (x *Link) ready(status byte) {
	if status == 0 {
		return
	}
	x.status = status
	x.skip = skip.Ready(x.skip)
}
