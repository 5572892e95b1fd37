package ring

import (
	"bytes"
	"math"
	"math/rand"
	"slices"
	"testing"

	"remuda/api"
)

// made answers a ring with room for most.
func made(t *testing.T, most int) *Ring {
	t.Helper()
	r, e := New(most)
	if r == nil || e != api.OK {
		t.Fatalf("New(%d) is %v, %d", most, r, e)
	}
	return r
}

// stands checks how many bytes there are, and how many more there may be; twice, since asking changes nothing.
func stands(t *testing.T, r *Ring, count, room int) {
	t.Helper()
	for range 2 {
		if r.Len() != count || r.Room() != room {
			t.Fatalf("Len is %d, and Room %d, not %d and %d", r.Len(), r.Room(), count, room)
		}
	}
}

// puts checks that Put of s answers e.
func puts(t *testing.T, r *Ring, s string, e api.Errno) {
	t.Helper()
	if got := r.Put([]byte(s)); got != e {
		t.Fatalf("Put(%.40q) is %d, not %d", s, got, e)
	}
}

// takes checks that Take of n answers want.
func takes(t *testing.T, r *Ring, n int, want string) {
	t.Helper()
	if got := r.Take(n); string(got) != want {
		t.Fatalf("Take(%d) is %.40q, not %.40q", n, got, want)
	}
}

// P36.1: there is room for 1 to 2^20 bytes, and none at first.
func TestNew(t *testing.T) {
	for _, most := range []int{1, 2, 3, 4096, 1<<20 - 1, 1 << 20} {
		r := made(t, most)
		stands(t, r, 0, most)
		takes(t, r, 1, "")
		stands(t, r, 0, most)
	}
	for _, most := range []int{math.MinInt, math.MinInt32, -(1 << 20), -1, 0, 1<<20 + 1, 1 << 21, 1 << 32, 1<<32 + 1, math.MaxInt} {
		if r, e := New(most); r != nil || e != api.ErrArg {
			t.Errorf("New(%d) is %v, %d", most, r, e)
		}
	}
}

// P36.1: what is put is behind what there is.
func TestPut(t *testing.T) {
	r := made(t, 8)
	puts(t, r, "ab", api.OK)
	stands(t, r, 2, 6)
	puts(t, r, "c", api.OK)
	stands(t, r, 3, 5)
	puts(t, r, "", api.OK)
	stands(t, r, 3, 5)
	puts(t, r, "\x00\xffdef", api.OK)
	stands(t, r, 8, 0)
	takes(t, r, 8, "abc\x00\xffdef")
	stands(t, r, 0, 8)
}

// P36.1: of what has no room nothing is put, were it a single byte too much; what just has room is.
func TestFull(t *testing.T) {
	for _, most := range []int{1, 2, 5, 64} {
		for count := range most + 1 {
			for shift := range most {
				r := made(t, most)
				puts(t, r, string(make([]byte, shift)), api.OK)
				takes(t, r, shift, string(make([]byte, shift)))
				there := string(bytes.Repeat([]byte{'a'}, count))
				puts(t, r, there, api.OK)
				for _, more := range []int{1, 2, most, most + 1, 3 * most} {
					puts(t, r, string(bytes.Repeat([]byte{'x'}, most-count+more)), api.ErrFull)
					stands(t, r, count, most-count)
				}
				rest := string(bytes.Repeat([]byte{'b'}, most-count))
				puts(t, r, rest, api.OK)
				stands(t, r, most, 0)
				puts(t, r, "x", api.ErrFull)
				puts(t, r, "", api.OK)
				takes(t, r, most, there+rest)
			}
		}
	}
}

// P36.1: Take answers as many as it is asked for, or all; they are gone, and there is room in their place.
func TestTake(t *testing.T) {
	for _, c := range []struct {
		n    int
		want string
	}{
		{1, "a"}, {2, "ab"}, {4, "abcd"}, {5, "abcde"}, {6, "abcde"}, {7, "abcde"}, {8, "abcde"}, {1 << 32, "abcde"}, {math.MaxInt, "abcde"},
		{0, ""}, {-1, ""}, {-5, ""}, {math.MinInt, ""},
	} {
		for shift := range 7 {
			r := made(t, 7)
			puts(t, r, "xxxxxxx"[:shift], api.OK)
			takes(t, r, shift, "xxxxxxx"[:shift])
			puts(t, r, "abcde", api.OK)
			takes(t, r, c.n, c.want)
			left := "abcde"[len(c.want):]
			stands(t, r, len(left), 7-len(left))
			puts(t, r, "fg", api.OK)
			takes(t, r, 7, left+"fg")
			stands(t, r, 0, 7)
			for _, n := range []int{c.n, 0, 1, -1} {
				takes(t, r, n, "")
			}
			stands(t, r, 0, 7)
		}
	}
}

// P36.1: the greatest ring takes all at once, and goes round.
func TestGreatest(t *testing.T) {
	most := 1 << 20
	all := make([]byte, most)
	for i := range all {
		all[i] = byte(i ^ i>>8)
	}
	r := made(t, most)
	puts(t, r, string(all[:most-1]), api.OK)
	takes(t, r, most-3, string(all[:most-3]))
	puts(t, r, string(all[:most-2]), api.OK)
	stands(t, r, most, 0)
	puts(t, r, "x", api.ErrFull)
	takes(t, r, math.MaxInt, string(all[most-3:most-1])+string(all[:most-2]))
	stands(t, r, 0, most)
}

// Example 1 of the chapter.
func TestExample(t *testing.T) {
	r := made(t, 4)
	puts(t, r, "abc", api.OK)
	takes(t, r, 2, "ab")
	puts(t, r, "def", api.OK)
	takes(t, r, 4, "cdef")
}

// P36.1: what no call made takes nothing, and has nothing, and no room.
func TestNotMade(t *testing.T) {
	for _, r := range []*Ring{nil, {}, new(Ring)} {
		for _, s := range []string{"", "a", "abc"} {
			puts(t, r, s, api.ErrNil)
			stands(t, r, 0, 0)
		}
		for _, n := range []int{math.MinInt, -1, 0, 1, math.MaxInt} {
			takes(t, r, n, "")
			stands(t, r, 0, 0)
		}
		if e := r.Put(nil); e != api.ErrNil {
			t.Fatalf("Put(nil) is %d", e)
		}
	}
}

// P36.1: what is put is neither kept nor changed, its spare room included; what is taken may be changed.
func TestApart(t *testing.T) {
	r := made(t, 4)
	b := []byte("abcdef")
	if e := r.Put(b[:3]); e != api.OK {
		t.Fatalf("Put is %d", e)
	}
	if e := r.Put(b[:3]); e != api.ErrFull || string(b) != "abcdef" {
		t.Fatalf("Put is %d, and %q stands there", e, b)
	}
	clear(b)
	got := r.Take(2)
	if string(got) != "ab" {
		t.Fatalf("Take is %q behind a change of what was put", got)
	}
	_ = append(got, "xyz"...)
	clear(got)
	puts(t, r, "fgh", api.OK)
	old := r.Take(3)
	if string(old) != "cfg" {
		t.Fatalf("Take is %q", old)
	}
	puts(t, r, "ijk", api.OK)
	clear(old)
	stands(t, r, 4, 0)
	if string(got) != "\x00\x00" {
		t.Fatalf("what was taken is %q now", got)
	}
	takes(t, r, 4, "hijk")
}

// P36.1: two rings know nothing of each other.
func TestTwoRings(t *testing.T) {
	a, b := made(t, 3), made(t, 3)
	puts(t, a, "abc", api.OK)
	stands(t, b, 0, 3)
	puts(t, b, "de", api.OK)
	takes(t, a, 2, "ab")
	takes(t, b, 3, "de")
	takes(t, a, 3, "c")
}

// P36.2: from each place on, in pieces of each size, what is taken is what was put.
func TestRound(t *testing.T) {
	for most := 1; most <= 9; most++ {
		for size := 1; size <= most; size++ {
			r := made(t, most)
			for i := range 5 * most {
				piece := make([]byte, size)
				for k := range piece {
					piece[k] = byte(i*size + k)
				}
				puts(t, r, string(piece), api.OK)
				stands(t, r, size, most-size)
				takes(t, r, size, string(piece))
				stands(t, r, 0, most)
			}
		}
	}
}

// P36.1, P36.2: whatever is put and taken in whichever order, it is as with a plain list of bytes.
func TestScripts(t *testing.T) {
	rnd := rand.New(rand.NewSource(36))
	for range 300 {
		most := 1 + rnd.Intn(20)
		r, want := made(t, most), []byte(nil)
		var put, taken []byte
		for range 200 {
			if rnd.Intn(2) == 0 {
				b := make([]byte, rnd.Intn(most+2))
				rnd.Read(b)
				e := api.OK
				if len(want)+len(b) > most {
					e = api.ErrFull
				} else {
					want = append(want, b...)
					put = append(put, b...)
				}
				puts(t, r, string(b), e)
			} else {
				n := rnd.Intn(most+4) - 2
				some := max(0, min(n, len(want)))
				got := r.Take(n)
				if !slices.Equal(got, want[:some]) {
					t.Fatalf("Take(%d) is %v with %v", n, got, want)
				}
				want = want[some:]
				taken = append(taken, got...)
			}
			stands(t, r, len(want), most-len(want))
			if !bytes.HasPrefix(put, taken) {
				t.Fatalf("%v was taken of %v", taken, put)
			}
		}
		if taken = append(taken, r.Take(most)...); !bytes.Equal(put, taken) {
			t.Fatalf("%v was taken of %v", taken, put)
		}
	}
}
