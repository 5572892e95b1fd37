package fifo

import (
	"math"
	"math/rand"
	"slices"
	"testing"
)

// stands checks that just these wait, in this order, by all calls that change nothing; twice, since they change nothing.
func stands(t *testing.T, f *Fifo, want ...int) {
	t.Helper()
	for range 2 {
		if got := f.List(); !slices.Equal(got, want) {
			t.Fatalf("List is %v, not %v", got, want)
		}
		if got := f.Len(); got != len(want) {
			t.Fatalf("Len is %d with %v", got, want)
		}
		first, any := 0, len(want) > 0
		if any {
			first = want[0]
		}
		if n, ok := f.Head(); n != first || ok != any {
			t.Fatalf("Head is %d, %v with %v", n, ok, want)
		}
	}
}

// pushed answers one in which these wait, in this order.
func pushed(t *testing.T, l ...int) *Fifo {
	t.Helper()
	f := New()
	for i, n := range l {
		if !f.Push(n) {
			t.Fatalf("Push(%d) is false behind %v", n, l[:i])
		}
		stands(t, f, l[:i+1]...)
	}
	return f
}

// pops checks that these are popped, in this order, and then none.
func pops(t *testing.T, f *Fifo, want ...int) {
	t.Helper()
	for i, first := range want {
		if n, ok := f.Pop(); n != first || !ok {
			t.Fatalf("Pop is %d, %v, not %d", n, ok, first)
		}
		stands(t, f, want[i+1:]...)
	}
	for range 2 {
		if n, ok := f.Pop(); n != 0 || ok {
			t.Fatalf("Pop is %d, %v of none", n, ok)
		}
		stands(t, f)
	}
}

// P32.1: whoever is pushed stands behind all, whichever number it is.
func TestPush(t *testing.T) {
	for _, l := range [][]int{
		nil, {0}, {1, 2, 3}, {3, 2, 1}, {5, -1, 0, 7},
		{math.MaxInt, math.MinInt, 0, -1, 1},
	} {
		pops(t, pushed(t, l...), l...)
	}
}

// P32.1: who waits already is not pushed, and stays where it is.
func TestPushTwice(t *testing.T) {
	f := pushed(t, 4, 0, -4)
	for _, n := range []int{4, 0, -4, 4} {
		if f.Push(n) {
			t.Fatalf("Push(%d) is true", n)
		}
		stands(t, f, 4, 0, -4)
	}
}

// P32.1: who has gone may come again, and stands behind all then.
func TestPushAgain(t *testing.T) {
	f := pushed(t, 4, 0, 6)
	f.Pop()
	if !f.Push(4) {
		t.Fatal("Push is false of what was popped")
	}
	stands(t, f, 0, 6, 4)
	f.Remove(6)
	if !f.Push(6) {
		t.Fatal("Push is false of what was removed")
	}
	stands(t, f, 0, 4, 6)
	pops(t, f, 0, 4, 6)
	if !f.Push(6) || !f.Push(0) {
		t.Fatal("Push is false where nobody waits")
	}
	pops(t, f, 6, 0)
}

// P32.1: Remove takes away who was there, from any place, and none else.
func TestRemove(t *testing.T) {
	all := []int{7, -2, 0, 9, 4}
	for i, n := range all {
		f := pushed(t, all...)
		left := slices.Delete(slices.Clone(all), i, i+1)
		if !f.Remove(n) {
			t.Fatalf("Remove(%d) is false", n)
		}
		stands(t, f, left...)
		for _, none := range []int{n, 1, -7, math.MinInt} {
			if f.Remove(none) {
				t.Fatalf("Remove(%d) is true", none)
			}
			stands(t, f, left...)
		}
		pops(t, f, left...)
	}
	if New().Remove(0) {
		t.Fatal("Remove(0) is true of one in which nobody waits")
	}
}

// P32.1: one in which nobody waits says so, and is one that may be pushed to.
func TestNobody(t *testing.T) {
	f := New()
	stands(t, f)
	pops(t, f)
	pops(t, pushed(t, 1), 1)
}

// P32.1: what no call made says no, 0, nothing, and takes nobody.
func TestNotMade(t *testing.T) {
	for _, f := range []*Fifo{nil, {}} {
		for _, n := range []int{0, 1, -1} {
			if f.Push(n) || f.Remove(n) {
				t.Fatalf("Push(%d), or Remove of it, is true", n)
			}
			stands(t, f)
		}
		pops(t, f)
	}
}

// P32.1: who gets a list may change it; two of them know nothing of each other.
func TestApart(t *testing.T) {
	f, g := pushed(t, 1, 2, 3), pushed(t, 3, 1)
	l := f.List()
	l[0], l[1] = 8, 9
	l = append(l[:1], 7, 7, 7)
	stands(t, f, 1, 2, 3)
	if f.Pop(); !g.Push(2) {
		t.Fatal("Push(2) is false")
	}
	stands(t, f, 2, 3)
	stands(t, g, 3, 1, 2)
}

// P32.2: who came first is first, whoever goes, or comes again, in between.
func TestFirst(t *testing.T) {
	f := pushed(t, 3, 5)
	f.Remove(3)
	stands(t, f, 5)
	f.Push(3)
	f.Push(1)
	stands(t, f, 5, 3, 1)
	f.Remove(3)
	f.Push(0)
	f.Push(3)
	pops(t, f, 5, 1, 0, 3)
}

// P32.1, P32.2: whatever is asked in whichever order, it is as with a list to whose end is put who comes.
func TestList(t *testing.T) {
	r := rand.New(rand.NewSource(32))
	for range 200 {
		f, l := New(), []int(nil)
		for range 100 {
			n := r.Intn(12) - 2
			at := slices.Index(l, n)
			switch r.Intn(5) {
			case 0, 1:
				if f.Push(n) != (at < 0) {
					t.Fatalf("Push(%d) with %v", n, l)
				}
				if at < 0 {
					l = append(l, n)
				}
			case 2, 3:
				if f.Remove(n) != (at >= 0) {
					t.Fatalf("Remove(%d) with %v", n, l)
				}
				if at >= 0 {
					l = slices.Delete(l, at, at+1)
				}
			case 4:
				first, ok := f.Pop()
				if ok != (len(l) > 0) || ok && first != l[0] {
					t.Fatalf("Pop is %d, %v with %v", first, ok, l)
				}
				l = l[min(1, len(l)):]
			}
			stands(t, f, l...)
		}
		pops(t, f, l...)
	}
}
