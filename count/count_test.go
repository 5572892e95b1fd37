package count

import (
	"math"
	"math/rand"
	"slices"
	"sync"
	"testing"
)

// wrongKinds are numbers that no kind has.
var wrongKinds = []int{math.MinInt, math.MinInt32, -Kinds, -1, Kinds, Kinds + 1, 1 << 8, 1<<8 + 1, 1 << 16, 1 << 32, 1<<32 + 1, 1<<63 - 1, math.MaxInt}

// stands checks how many c has of each kind, by each call that tells it; twice, since asking changes nothing.
func stands(t *testing.T, c *Counter, want ...int) {
	t.Helper()
	sum := 0
	for _, n := range want {
		sum += n
	}
	for range 2 {
		if got := c.List(); !slices.Equal(got, want) {
			t.Fatalf("List is %v, not %v", got, want)
		}
		for kind, n := range want {
			if got := c.Get(kind); got != n {
				t.Fatalf("Get(%d) is %d, not %d", kind, got, n)
			}
		}
		if got := c.Total(); got != sum {
			t.Fatalf("Total is %d, not %d", got, sum)
		}
	}
}

// adds checks that Add of n of kind answers want.
func adds(t *testing.T, c *Counter, kind, n int, want bool) {
	t.Helper()
	if got := c.Add(kind, n); got != want {
		t.Fatalf("Add(%d, %d) is %t", kind, n, got)
	}
}

// P37.1: the kinds are numbers from 0 on, in the chapter's order.
func TestKinds(t *testing.T) {
	got := []int{Messages, Leases, Injected, Faults, Losses, Kinds}
	if !slices.Equal(got, []int{0, 1, 2, 3, 4, 5}) {
		t.Fatal(got)
	}
}

// P37.1: at first there is none of any kind.
func TestNew(t *testing.T) {
	c := New()
	if c == nil {
		t.Fatal("New is nil")
	}
	stands(t, c, 0, 0, 0, 0, 0)
}

// P37.1: what is added is more of that kind, and of no other one.
func TestAdd(t *testing.T) {
	for kind := range Kinds {
		c, want := New(), make([]int, 5)
		for _, n := range []int{1, 2, 0, 1000, 1, 1 << 20} {
			adds(t, c, kind, n, true)
			want[kind] += n
			stands(t, c, want...)
		}
	}
	c := New()
	for kind := range Kinds {
		adds(t, c, kind, 10+kind, true)
	}
	stands(t, c, 10, 11, 12, 13, 14)
}

// P37.1: there may be 0 to 2^31 more by one call.
func TestEdges(t *testing.T) {
	for kind := range Kinds {
		c, want := New(), make([]int, 5)
		for _, n := range []int{0, 1, 1<<31 - 2, 1<<31 - 1, 1 << 31} {
			adds(t, c, kind, n, true)
			want[kind] += n
			stands(t, c, want...)
		}
		for _, n := range []int{math.MinInt, math.MinInt + 1, math.MinInt32, -1 << 31, -2, -1, 1<<31 + 1, 1<<31 + 2, 1 << 32, 1<<32 + 1, 1 << 40, math.MaxInt} {
			adds(t, c, kind, n, false)
			stands(t, c, want...)
		}
	}
}

// P37.1: of what is no kind nothing is added, and there is none, however many there are of others.
func TestWrongKinds(t *testing.T) {
	c := New()
	for kind := range Kinds {
		adds(t, c, kind, 7, true)
	}
	for _, kind := range wrongKinds {
		for _, n := range []int{-1, 0, 1, 1 << 31, 1<<31 + 1} {
			adds(t, c, kind, n, false)
		}
		if got := c.Get(kind); got != 0 {
			t.Fatalf("Get(%d) is %d", kind, got)
		}
		stands(t, c, 7, 7, 7, 7, 7)
	}
}

// P37.1: the chapter's example.
func TestExample(t *testing.T) {
	c := New()
	adds(t, c, Leases, 2, true)
	if got := c.Get(Leases); got != 2 {
		t.Fatalf("Get is %d", got)
	}
	stands(t, c, 0, 2, 0, 0, 0)
}

// P37.1: of what no call made nothing is counted.
func TestNotMade(t *testing.T) {
	for _, c := range []*Counter{nil, {}, new(Counter)} {
		for _, kind := range append([]int{0, 1, 2, 3, 4}, wrongKinds...) {
			for _, n := range []int{math.MinInt, -1, 0, 1, 1 << 31, math.MaxInt} {
				adds(t, c, kind, n, false)
			}
			if got := c.Get(kind); got != 0 {
				t.Fatalf("Get(%d) is %d", kind, got)
			}
		}
		if l, n := c.List(), c.Total(); len(l) > 0 || n != 0 {
			t.Fatalf("List is %v, and Total %d", l, n)
		}
	}
}

// P37.1: what is answered may be changed, and what was answered stays as it is.
func TestApart(t *testing.T) {
	c := New()
	adds(t, c, Faults, 2, true)
	first, second := c.List(), c.List()
	first[Faults], first[Leases] = 9, 9
	_ = append(first[:1], 8, 8)
	stands(t, c, 0, 0, 0, 2, 0)
	adds(t, c, Losses, 3, true)
	if !slices.Equal(second, []int{0, 0, 0, 2, 0}) {
		t.Fatalf("what List answered is %v now", second)
	}
}

// P37.1: two counters know nothing of each other.
func TestTwoCounters(t *testing.T) {
	a, b := New(), New()
	adds(t, a, Leases, 1, true)
	stands(t, b, 0, 0, 0, 0, 0)
	adds(t, b, Faults, 2, true)
	stands(t, a, 0, 1, 0, 0, 0)
	stands(t, b, 0, 0, 0, 2, 0)
}

// P37.1, P37.2: nothing is lost where many count at once.
func TestAtOnce(t *testing.T) {
	const many, times = 16, 2000
	c := New()
	var all sync.WaitGroup
	for who := range many {
		all.Go(func() {
			for i := range times {
				if !c.Add((who+i)%Kinds, 3) || c.Add(Kinds, 1) || c.Get(who%Kinds) < 0 || c.Total() < 0 {
					t.Errorf("%d is told what may not be", who)
				}
			}
		})
	}
	all.Wait()
	each := many * times * 3 / Kinds
	stands(t, c, each, each, each, each, each)
}

// P37.2: whatever is added, Total is all that was.
func TestTotal(t *testing.T) {
	rnd := rand.New(rand.NewSource(37))
	for range 50 {
		c, want, sum := New(), make([]int, 5), 0
		for range 100 {
			kind, n := rnd.Intn(7)-1, rnd.Intn(1<<32)-1<<29
			may := 0 <= kind && kind <= 4 && 0 <= n && n <= 1<<31
			adds(t, c, kind, n, may)
			if may {
				want[kind] += n
				sum += n
			}
			stands(t, c, want...)
			if got := c.Total(); got != sum {
				t.Fatalf("Total is %d, not %d", got, sum)
			}
		}
	}
}
