package lease

import (
	"math"
	"math/rand"
	"slices"
	"testing"

	"remuda/api"
)

// nobody stands for no client in what stands checks.
const nobody = math.MinInt

// what is the state that one server must have, and whose it must be.
type what struct{ state, client int }

// down, begun, ready and drained are servers that are nobody's.
var (
	down    = what{api.ServerDown, nobody}
	begun   = what{api.ServerStart, nobody}
	ready   = what{api.ServerIdle, nobody}
	drained = what{api.ServerDrain, nobody}
)

// of is a server that is the client's.
func of(client int) what {
	return what{api.ServerLeased, client}
}

// some are numbers that clients, servers and picks may have.
var some = []int{math.MinInt, math.MinInt + 1, -9, -2, -1, 0, 1, 2, 3, 4, 5, 6, 7, 8, 9, 1000, math.MaxInt}

// stands checks that just these servers are there, by all calls that change nothing; twice, since they change nothing.
func stands(t *testing.T, l *Leases, want ...what) {
	t.Helper()
	for range 2 {
		servers := map[int]int{}
		var idle []int
		for s, w := range want {
			if w.client != nobody {
				servers[w.client] = s
			}
			if w.state == api.ServerIdle {
				idle = append(idle, s)
			}
		}
		if got := l.Idle(); !slices.Equal(got, idle) {
			t.Fatalf("Idle is %v with %v", got, want)
		}
		for _, n := range some {
			w := down
			if n >= 0 && n < len(want) {
				w = want[n]
			}
			if got := l.State(n); got != w.state {
				t.Fatalf("State(%d) is %d with %v", n, got, want)
			}
			client, held := w.client, w.client != nobody
			if !held {
				client = 0
			}
			if c, ok := l.Holder(n); c != client || ok != held {
				t.Fatalf("Holder(%d) is %d, %v with %v", n, c, ok, want)
			}
			server, has := servers[n]
			if s, ok := l.Of(n); s != server || ok != has {
				t.Fatalf("Of(%d) is %d, %v with %v", n, s, ok, want)
			}
		}
	}
}

// made answers one with servers, all down.
func made(t *testing.T, servers int) *Leases {
	t.Helper()
	l, e := New(servers)
	if l == nil || e != api.OK {
		t.Fatalf("New(%d) is %v, %d", servers, l, e)
	}
	return l
}

// says checks that the call of this name answers e.
func says(t *testing.T, name string, got, want api.Errno) {
	t.Helper()
	if got != want {
		t.Fatalf("%s is %d, not %d", name, got, want)
	}
}

// up has these servers be idle.
func up(t *testing.T, l *Leases, servers ...int) {
	t.Helper()
	for _, s := range servers {
		says(t, "Start", l.Start(s), api.OK)
		says(t, "Up", l.Up(s), api.OK)
	}
}

// leases checks that the client gets s by this pick.
func leases(t *testing.T, l *Leases, client, pick, s int) {
	t.Helper()
	if got, e := l.Lease(client, pick); got != s || e != api.OK {
		t.Fatalf("Lease(%d, %d) is %d, %d, not %d", client, pick, got, e, s)
	}
}

// leasesNone checks that the client gets none, with e.
func leasesNone(t *testing.T, l *Leases, client, pick int, e api.Errno) {
	t.Helper()
	if s, got := l.Lease(client, pick); s != 0 || got != e {
		t.Fatalf("Lease(%d, %d) is %d, %d, not 0, %d", client, pick, s, got, e)
	}
}

// mixed answers one whose five servers have all five states; the one that is leased is client 6's.
func mixed(t *testing.T) (*Leases, []what) {
	t.Helper()
	l := made(t, 5)
	says(t, "Start", l.Start(1), api.OK)
	up(t, l, 2, 3, 4)
	leases(t, l, 6, 1, 3)
	leases(t, l, 7, 1, 4)
	says(t, "Drain", l.Drain(4), api.OK)
	want := []what{down, begun, ready, of(6), drained}
	stands(t, l, want...)
	return l, want
}

// P33.1: from 1 to 8 servers there may be, all of them down.
func TestNew(t *testing.T) {
	for servers := 1; servers <= api.MaxServers; servers++ {
		stands(t, made(t, servers), slices.Repeat([]what{down}, servers)...)
	}
	for _, servers := range []int{math.MinInt, -8, -1, 0, api.MaxServers + 1, 16, math.MaxInt} {
		if l, e := New(servers); l != nil || e != api.ErrArg {
			t.Errorf("New(%d) is %v, %d", servers, l, e)
		}
	}
}

// P33.1: what there is of servers of all states.
func TestStates(t *testing.T) {
	mixed(t)
}

// P33.1: those that are idle are told rising, in whichever order they came up.
func TestIdle(t *testing.T) {
	l := made(t, 6)
	up(t, l, 5, 0, 3)
	stands(t, l, ready, down, down, ready, down, ready)
	up(t, l, 1)
	stands(t, l, ready, ready, down, ready, down, ready)
}

// P33.2: of a server that is not there all say ErrArg, and change nothing.
func TestNoServer(t *testing.T) {
	l, want := mixed(t)
	for _, s := range []int{math.MinInt, -5, -1, 5, 6, 7, 8, math.MaxInt} {
		says(t, "Start", l.Start(s), api.ErrArg)
		says(t, "Up", l.Up(s), api.ErrArg)
		says(t, "Drain", l.Drain(s), api.ErrArg)
		says(t, "Down", l.Down(s), api.ErrArg)
		stands(t, l, want...)
	}
}

// P33.2: from each state each turn goes, or says ErrState and changes nothing.
func TestTurns(t *testing.T) {
	for _, c := range []struct {
		name  string
		turn  func(l *Leases, s int) api.Errno
		to    what
		fails []int
	}{
		{"Start", (*Leases).Start, begun, []int{1, 2, 3, 4}},
		{"Up", (*Leases).Up, ready, []int{0, 2}},
		{"Drain", (*Leases).Drain, drained, []int{0, 1, 2, 4}},
		{"Down", (*Leases).Down, down, nil},
	} {
		for s := range 5 {
			l, want := mixed(t)
			e := api.OK
			if slices.Contains(c.fails, s) {
				e = api.ErrState
			} else {
				want[s] = c.to
			}
			says(t, c.name, c.turn(l, s), e)
			stands(t, l, want...)
		}
	}
}

// P33.2: the pick goes round among those that are idle, from 0 on, for negative ones, too.
func TestPick(t *testing.T) {
	for _, c := range []struct{ pick, s int }{
		{0, 1}, {1, 4}, {2, 5}, {3, 1}, {4, 4}, {5, 5}, {300, 1}, {301, 4},
		{-1, 5}, {-2, 4}, {-3, 1}, {-4, 5}, {-300, 1}, {-301, 5},
		{math.MaxInt, 4}, {math.MaxInt - 1, 1}, {math.MinInt, 4}, {math.MinInt + 1, 5},
	} {
		l := made(t, 7)
		up(t, l, 5, 1, 4)
		says(t, "Start", l.Start(2), api.OK)
		want := []what{down, ready, begun, down, ready, ready, down}
		leases(t, l, 9, c.pick, c.s)
		want[c.s] = of(9)
		stands(t, l, want...)
	}
}

// P33.2: any number is a client's, 0 and negative ones, too; each has its own.
func TestClients(t *testing.T) {
	l := made(t, 5)
	up(t, l, 0, 1, 2, 3, 4)
	leases(t, l, 0, 0, 0)
	leases(t, l, -1, 0, 1)
	leases(t, l, math.MaxInt, 0, 2)
	leases(t, l, math.MinInt+1, 0, 3)
	leases(t, l, 1, 0, 4)
	stands(t, l, of(0), of(-1), of(math.MaxInt), of(math.MinInt+1), of(1))
}

// P33.2: who has one gets no second one, whether there is an idle one or none; nobody gets one where none is idle.
func TestRefused(t *testing.T) {
	l, want := mixed(t)
	for _, pick := range []int{0, 1, -1} {
		leasesNone(t, l, 6, pick, api.ErrTwice)
		stands(t, l, want...)
	}
	leases(t, l, 5, 0, 2)
	want[2] = of(5)
	for _, pick := range []int{0, 1, -1, math.MaxInt} {
		leasesNone(t, l, 6, pick, api.ErrTwice)
		leasesNone(t, l, 5, pick, api.ErrTwice)
		leasesNone(t, l, 8, pick, api.ErrNone)
		leasesNone(t, l, 0, pick, api.ErrNone)
		stands(t, l, want...)
	}
	leasesNone(t, made(t, 8), 1, 1, api.ErrNone)
}

// P33.2: whose server turned to another state, whichever, may have one again.
func TestAgain(t *testing.T) {
	for _, turn := range []func(l *Leases, s int) api.Errno{(*Leases).Up, (*Leases).Drain, (*Leases).Down} {
		l := made(t, 2)
		up(t, l, 0, 1)
		leases(t, l, 3, 0, 0)
		says(t, "the turn", turn(l, 0), api.OK)
		leases(t, l, 3, -1, 1)
		if s, ok := l.Of(3); s != 1 || !ok {
			t.Fatalf("Of(3) is %d, %v", s, ok)
		}
		if c, ok := l.Holder(0); ok {
			t.Fatalf("Holder(0) is %d", c)
		}
	}
}

// P33.2: one way round, through all states.
func TestRound(t *testing.T) {
	l := made(t, 1)
	for client := range 3 {
		says(t, "Start", l.Start(0), api.OK)
		stands(t, l, begun)
		leasesNone(t, l, client, 0, api.ErrNone)
		says(t, "Up", l.Up(0), api.OK)
		stands(t, l, ready)
		leases(t, l, client, client, 0)
		stands(t, l, of(client))
		says(t, "Drain", l.Drain(0), api.OK)
		stands(t, l, drained)
		leasesNone(t, l, client, 0, api.ErrNone)
		says(t, "Up", l.Up(0), api.OK)
		stands(t, l, ready)
		says(t, "Down", l.Down(0), api.OK)
		stands(t, l, down)
	}
}

// Example 1 of the chapter.
func TestExample(t *testing.T) {
	l := made(t, 1)
	up(t, l, 0)
	leases(t, l, 5, 0, 0)
	leasesNone(t, l, 6, 0, api.ErrNone)
}

// P33.2: what no call made says ErrNil, ServerDown, none, nothing, whatever is asked.
func TestNotMade(t *testing.T) {
	for _, l := range []*Leases{nil, {}} {
		for _, n := range some {
			says(t, "Start", l.Start(n), api.ErrNil)
			says(t, "Up", l.Up(n), api.ErrNil)
			says(t, "Drain", l.Drain(n), api.ErrNil)
			says(t, "Down", l.Down(n), api.ErrNil)
			leasesNone(t, l, n, n, api.ErrNil)
		}
		stands(t, l)
	}
}

// P33.1: who gets the list of idle ones may change it; two know nothing of each other.
func TestApart(t *testing.T) {
	l, g := made(t, 3), made(t, 3)
	up(t, l, 0, 1, 2)
	idle := l.Idle()
	idle[0], idle[1] = 2, 7
	idle = append(idle[:1], 5)
	stands(t, l, ready, ready, ready)
	stands(t, g, down, down, down)
	leases(t, l, 1, 0, 0)
	stands(t, g, down, down, down)
}

// once checks that no server is two clients', and no client has two: each one's server is held by just that one.
func once(t *testing.T, l *Leases, clients, servers int) {
	t.Helper()
	held := map[int]int{}
	for c := range clients {
		s, ok := l.Of(c)
		if !ok {
			continue
		}
		if other, twice := held[s]; twice {
			t.Fatalf("server %d is %d's and %d's", s, other, c)
		}
		held[s] = c
		if back, ok := l.Holder(s); back != c || !ok || l.State(s) != api.ServerLeased {
			t.Fatalf("server %d of %d is %d's, %v", s, c, back, ok)
		}
	}
	for s := range servers {
		if c, ok := l.Holder(s); ok {
			if n, of := held[s]; n != c || !of {
				t.Fatalf("server %d is %d's, who has another one", s, c)
			}
		}
	}
}

// turned answers what the model makes of a turn of this kind.
func turned(want []what, kind, s int) api.Errno {
	if s < 0 || s >= len(want) {
		return api.ErrArg
	}
	state := want[s].state
	goes := []bool{
		state == api.ServerDown,
		state == api.ServerStart || state == api.ServerLeased || state == api.ServerDrain,
		state == api.ServerLeased,
		true,
	}
	if !goes[kind] {
		return api.ErrState
	}
	want[s] = []what{begun, ready, drained, down}[kind]
	return api.OK
}

// leased answers what the model makes of a lease.
func leased(want []what, client, pick int) (int, api.Errno) {
	var idle []int
	for s, w := range want {
		if w.client == client {
			return 0, api.ErrTwice
		}
		if w.state == api.ServerIdle {
			idle = append(idle, s)
		}
	}
	if len(idle) == 0 {
		return 0, api.ErrNone
	}
	for pick < 0 {
		pick += len(idle)
	}
	s := idle[pick%len(idle)]
	want[s] = of(client)
	return s, api.OK
}

// P33.1, P33.2, P33.3: whatever is asked in whichever order, it is as with a plain list of servers.
func TestScripts(t *testing.T) {
	r := rand.New(rand.NewSource(33))
	turns := []func(l *Leases, s int) api.Errno{(*Leases).Start, (*Leases).Up, (*Leases).Drain, (*Leases).Down}
	for range 200 {
		n := 1 + r.Intn(api.MaxServers)
		l, want := made(t, n), slices.Repeat([]what{down}, n)
		for range 120 {
			s := r.Intn(n+2) - 1
			switch kind := r.Intn(8); kind {
			case 0, 1, 2, 3:
				if kind == 3 && r.Intn(3) > 0 {
					kind = 1
				}
				e := turned(want, kind, s)
				says(t, "the turn", turns[kind](l, s), e)
			default:
				client, pick := r.Intn(6), r.Intn(30)-15
				server, e := leased(want, client, pick)
				if got, err := l.Lease(client, pick); got != server || err != e {
					t.Fatalf("Lease(%d, %d) is %d, %d, not %d, %d", client, pick, got, err, server, e)
				}
			}
			stands(t, l, want...)
			once(t, l, 6, n)
		}
	}
}
