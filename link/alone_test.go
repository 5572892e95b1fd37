package link

import (
	"math/rand"
	"slices"
	"strings"
	"testing"

	"remuda/api"
	"remuda/back"
	"remuda/engine"
	"remuda/names"
	"remuda/serve"
	"remuda/sess"
	"remuda/table"
)

// run is a link with a server behind it, one client after the other, and a session that is the client's alone.
type run struct {
	part
	t      *testing.T
	r      *rand.Rand
	server *serve.Server
	to     []byte // what the server is still to get
	engine *engine.Engine
	alone  *sess.Session
	said   string // what the client was told
	want   string // what a session of its own would have told it
	most   int
}

// newRun answers a run whose server was told Hello.
func newRun(t *testing.T, r *rand.Rand) *run {
	t.Helper()
	most := 1 + r.Intn(3)
	// Two engines, so that both are asked the same.
	u := &run{part: made(t, most, 6+r.Intn(8)), t: t, r: r, server: serve.New(engine.New(), []api.Pair{{Name: "a", Value: "b"}}, 1000), engine: engine.New(), most: most}
	u.alone = sess.New(u.engine)
	u.to = append(u.to, u.Hello(nil)...)
	return u
}

// message answers what a client may say.
func message(r *rand.Rand) api.Front {
	name := []string{"", "a", "b", "c"}[r.Intn(4)]
	portal := []string{"", "x"}[r.Intn(2)]
	texts := []string{"select 2", "select 1", "echo", "next", "bad", "", "fail 22012", "begin", "commit", "rollback"}
	switch r.Intn(16) {
	case 0, 1, 2:
		return api.Front{Kind: 'P', Name: name, Text: texts[r.Intn(len(texts))], OIDs: []int{23}[:r.Intn(2)]}
	case 3, 4, 5:
		return api.Front{Kind: 'B', Name: name, Portal: portal, Params: []api.Cell{{Null: true}}[:r.Intn(2)]}
	case 6, 7:
		return api.Front{Kind: 'D', What: 'S', Name: name}
	case 8:
		return api.Front{Kind: 'D', What: 'P', Portal: portal}
	case 9, 10:
		return api.Front{Kind: 'E', Portal: portal, Max: r.Intn(3)}
	case 11:
		return api.Front{Kind: 'C', What: 'S', Name: name}
	case 12:
		return api.Front{Kind: 'C', What: 'P', Portal: portal}
	case 13:
		return api.Front{Kind: 'H'}
	case 14:
		return api.Front{Kind: 'Q', Text: texts[r.Intn(len(texts))]}
	}
	return api.Front{Kind: 'S'}
}

// counted checks P40.5: what is Pending, in List, and what names stand for, is all that refers.
func (u *run) counted() {
	u.t.Helper()
	want := map[int]int{}
	for _, id := range slices.Concat(u.List(), u.Pending()) {
		want[id]++
	}
	for _, n := range u.named() {
		want[n.ID]++
	}
	n := 0
	for id, refs := range u.all.All() {
		n++
		if refs != want[id] {
			u.t.Fatalf("%d refer to %d, not %d: %+v", refs, id, want[id], u.state())
		}
	}
	if n != len(want) || len(u.List()) > u.most {
		u.t.Fatalf("%d statements are there, not %d: %+v", n, len(want), u.state())
	}
}

// send has the client say f, if it passes, and tells whether it was taken; what counts for nothing is taken, too.
func (u *run) send(f api.Front) bool {
	switch u.Verdict(f) {
	case api.Hold:
		return false
	case api.Pass:
		own, last, said := u.Send(u.names, f)
		u.to = append(append(u.to, own...), last...)
		u.said += string(said)
	}
	u.want += string(back.Bytes(u.alone.Do(f)...))
	u.counted()
	return true
}

// serve has the server get some of its bytes, and do a message of those.
func (u *run) serve() {
	n := u.r.Intn(len(u.to) + 1)
	if e := u.server.Feed(u.to[:n]); e != api.OK {
		u.t.Fatal(e)
	}
	u.to = u.to[n:]
	u.server.Step()
}

// reply has a reply of the server come, if there is one.
func (u *run) reply(t *table.Table) bool {
	m, ok := u.server.Take()
	if !ok {
		return false
	}
	said, status, e := u.Got(t, m)
	if e != api.OK || m.Type == 'Z' != (status != 0) {
		u.t.Fatalf("Got of %c is %d, %d: %+v", m.Type, status, e, u.state())
	}
	u.said += string(said)
	u.counted()
	return true
}

// settle has the server do all that it was told, and all replies come.
func (u *run) settle(t *table.Table) {
	u.server.Feed(u.to)
	u.to = nil
	for range 40 {
		u.server.Step()
	}
	for u.reply(t) {
	}
}

// leave has the client vanish, whatever is to come; all is told to nobody, up to when the server is idle.
func (u *run) leave() {
	u.to = append(u.to, u.Drain()...)
	u.said, u.want = "", ""
	for _, n := range u.named() {
		u.all.Drop(n.ID)
		u.names.Delete(n.Name)
	}
	u.counted()
	for range 3 {
		u.settle(nil)
		u.to = append(u.to, u.Drain()...)
	}
	if u.said != "" || !u.Idle() {
		u.t.Fatalf("once the client is gone it is told %q: %+v", u.said, u.state())
	}
}

// rested checks what an idle server has: no transaction, and just the statements that its cache says.
func (u *run) rested() {
	u.t.Helper()
	want := []string{names.Dup()}
	for _, id := range u.List() {
		want = append(want, names.Server(id))
	}
	slices.Sort(want)
	// The nameless one is the server's own affair: the next one takes its place.
	got := slices.DeleteFunc(u.server.Session().Names(), func(s string) bool { return s == "" })
	if u.server.Session().Status() != 'I' || !slices.Equal(got, want) {
		u.t.Fatalf("the server is %c, and has %q, not %q", u.server.Session().Status(), got, want)
	}
}

// client has a client say some messages, whenever a reply comes, and then leave.
func (u *run) client() {
	u.alone = sess.New(u.engine)
	for left := u.r.Intn(40); left > 0; {
		f := message(u.r)
		for !u.send(f) {
			u.serve()
			u.reply(u.names)
		}
		left--
		for range u.r.Intn(4) {
			u.serve()
		}
		for range u.r.Intn(3) {
			u.reply(u.names)
		}
		if !strings.HasPrefix(u.want, u.said) {
			u.t.Fatalf("it was told %q, and alone %q", u.said, u.want)
		}
	}
	if u.r.Intn(2) == 0 {
		u.settle(u.names)
		if u.said != u.want {
			u.t.Fatalf("it was told %q, and alone %q", u.said, u.want)
		}
	}
}

// P40.2, P40.3, P40.5: whatever clients say, one after the other, and whenever replies come, each is told what a session of its own says, and what refers is counted at every step.
func TestAlone(t *testing.T) {
	r := rand.New(rand.NewSource(40))
	for range 400 {
		u := newRun(t, r)
		u.settle(nil)
		for range 1 + r.Intn(4) {
			if !u.Idle() {
				t.Fatalf("it is not idle: %+v", u.state())
			}
			u.rested()
			u.client()
			u.leave()
		}
		u.rested()
		u.Lost()
		u.counted()
		if u.all.Len() != 0 {
			t.Fatalf("nobody is there, and %d statements are", u.all.Len())
		}
	}
}

// anything answers what a server may say to an entry of this kind, or what none says.
func anything(r *rand.Rand, kind int) api.Back {
	if r.Intn(6) == 0 {
		return failure("X", "y")
	}
	if r.Intn(8) == 0 {
		return api.Back{Kind: 'Z', Status: "ITE"[r.Intn(3)]}
	}
	switch kind {
	case api.EntParse:
		return api.Back{Kind: '1'}
	case api.EntBind:
		return api.Back{Kind: '2'}
	case api.EntClose:
		return api.Back{Kind: '3'}
	case api.EntSync, api.EntQuery, api.EntHello:
		return api.Back{Kind: 'Z', Status: "ITE"[r.Intn(3)]}
	}
	return api.Back{Kind: "nICDT"[r.Intn(5)]}
}

// P40.5: what refers is counted, whatever the server replies, whoever is lost, and whenever the client vanishes.
func TestCounted(t *testing.T) {
	r := rand.New(rand.NewSource(405))
	for range 300 {
		u := &run{part: made(t, 1+r.Intn(3), 6+r.Intn(20)), t: t, r: r, engine: engine.New(), most: 3}
		u.alone = sess.New(u.engine)
		for range 150 {
			switch r.Intn(40) {
			case 0:
				u.Drain()
			case 1:
				u.Lost()
			case 2, 3, 4, 5, 6, 7, 8, 9, 10, 11, 12, 13, 14, 15, 16:
				u.send(message(r))
			default:
				kind := 0
				if l := u.Entries(); len(l) > 0 {
					kind = l[0].Kind
				}
				m, _ := back.Encode(anything(r, kind))
				names := u.names
				if r.Intn(5) == 0 {
					names = nil
				}
				u.Got(names, m)
			}
			u.counted()
		}
	}
}
