package num

import (
	"bytes"
	"math"
	"testing"

	"remuda/api"
)

// wrongSizes are numbers that are no size, those beside the sizes among them.
var wrongSizes = []int{math.MinInt, -4, -2, -1, 0, 3, 5, 6, 7, 8, 16, 64, math.MaxInt}

// bounds are the least and the greatest number that each size holds, and where its sign begins.
var bounds = []struct{ size, least, half, most int }{
	{1, -128, 128, 255},
	{2, -32768, 32768, 65535},
	{4, -2147483648, 2147483648, 4294967295},
}

// P1.1: Right holds from -256^size / 2 to 256^size - 1, and no further.
func TestRightBounds(t *testing.T) {
	for _, b := range bounds {
		for _, n := range []int{b.least, b.least + 1, -1, 0, 1, b.half - 1, b.half, b.most - 1, b.most} {
			if !Right(n, b.size) {
				t.Errorf("Right(%d, %d) is false", n, b.size)
			}
		}
		for _, n := range []int{math.MinInt, b.least - 1, b.most + 1, math.MaxInt} {
			if Right(n, b.size) {
				t.Errorf("Right(%d, %d) is true", n, b.size)
			}
		}
	}
}

// P1.1: Right fails for whatever is no size.
func TestRightWrongSize(t *testing.T) {
	for _, size := range wrongSizes {
		for _, n := range []int{-1, 0, 1} {
			if Right(n, size) {
				t.Errorf("Right(%d, %d) is true", n, size)
			}
		}
	}
}

// P1.1: Get reads the highest byte first, from at on, up to the last byte.
func TestGet(t *testing.T) {
	b := []byte{9, 1, 2, 254, 255}
	for _, c := range []struct{ at, size, want int }{
		{0, 1, 9}, {4, 1, 255}, {1, 2, 258}, {3, 2, 65279}, {0, 4, 151061246}, {1, 4, 16973567},
	} {
		if n, e := Get(b, c.at, c.size); n != c.want || e != api.OK {
			t.Errorf("Get(b, %d, %d) is %d, %d", c.at, c.size, n, e)
		}
	}
	if n, e := Get([]byte{255, 255, 255, 255}, 0, 4); n != 4294967295 || e != api.OK {
		t.Errorf("the greatest number is %d, %d", n, e)
	}
}

// P1.1: Get refuses bytes that end too early, and places where at + size wraps round.
func TestGetShort(t *testing.T) {
	b := []byte{1, 2, 3, 4}
	for _, c := range []struct{ at, size int }{
		{4, 1}, {3, 2}, {4, 2}, {1, 4}, {4, 4}, {5, 1}, {math.MaxInt, 1}, {math.MaxInt, 4}, {math.MaxInt - 3, 4},
	} {
		if n, e := Get(b, c.at, c.size); n != 0 || e != api.ErrShort {
			t.Errorf("Get(b, %d, %d) is %d, %d", c.at, c.size, n, e)
		}
	}
	for _, none := range [][]byte{nil, {}} {
		if n, e := Get(none, 0, 1); n != 0 || e != api.ErrShort {
			t.Errorf("Get of no bytes is %d, %d", n, e)
		}
	}
	if n, e := Get(b[:1], 0, 2); n != 0 || e != api.ErrShort {
		t.Errorf("Get reads the spare room: %d, %d", n, e)
	}
}

// P1.1: Get tells ErrArg, and that ahead of ErrShort.
func TestGetArg(t *testing.T) {
	for _, b := range [][]byte{nil, {1, 2, 3, 4, 5, 6, 7, 8}} {
		for _, size := range wrongSizes {
			for _, at := range []int{-1, 0, 9, math.MaxInt} {
				if n, e := Get(b, at, size); n != 0 || e != api.ErrArg {
					t.Errorf("Get(%v, %d, %d) is %d, %d", b, at, size, n, e)
				}
			}
		}
		for _, at := range []int{-1, -4, math.MinInt} {
			if n, e := Get(b, at, 1); n != 0 || e != api.ErrArg {
				t.Errorf("Get(%v, %d, 1) is %d, %d", b, at, n, e)
			}
		}
	}
}

// P1.1: Signed takes 256^size off in the upper half, and leaves all else.
func TestSigned(t *testing.T) {
	for _, b := range bounds {
		for _, n := range []int{b.half, b.half + 1, b.most - 1, b.most} {
			if got := Signed(n, b.size); got != n-b.most-1 {
				t.Errorf("Signed(%d, %d) is %d", n, b.size, got)
			}
		}
		for _, n := range []int{math.MinInt, b.least - 1, b.least, -1, 0, 1, b.half - 1, b.most + 1, math.MaxInt} {
			if got := Signed(n, b.size); got != n {
				t.Errorf("Signed(%d, %d) is %d", n, b.size, got)
			}
		}
	}
}

// P1.1: Signed leaves a number of no size.
func TestSignedWrongSize(t *testing.T) {
	for _, size := range wrongSizes {
		for _, n := range []int{math.MinInt, -1, 0, 128, 255, 65535, 4294967295, math.MaxInt} {
			if got := Signed(n, size); got != n {
				t.Errorf("Signed(%d, %d) is %d", n, size, got)
			}
		}
	}
}

// P1.1: Put writes n's bytes behind b, those of n and 256^size, if n is below 0.
func TestPut(t *testing.T) {
	for _, c := range []struct {
		n, size int
		want    []byte
	}{
		{-1, 2, []byte{255, 255}},
		{0, 1, []byte{0}}, {255, 1, []byte{255}}, {-128, 1, []byte{128}}, {-1, 1, []byte{255}},
		{258, 2, []byte{1, 2}}, {65535, 2, []byte{255, 255}}, {-32768, 2, []byte{128, 0}},
		{16909060, 4, []byte{1, 2, 3, 4}}, {4294967295, 4, []byte{255, 255, 255, 255}},
		{-2147483648, 4, []byte{128, 0, 0, 0}}, {-2, 4, []byte{255, 255, 255, 254}},
	} {
		for _, b := range [][]byte{nil, {}, {7}, {7, 8, 9}} {
			want := append(append([]byte{}, b...), c.want...)
			if got := Put(b, c.n, c.size); !bytes.Equal(got, want) {
				t.Errorf("Put(%v, %d, %d) is %v", b, c.n, c.size, got)
			}
		}
	}
}

// P1.1: Put answers b alone, unless Right.
func TestPutWrong(t *testing.T) {
	b := []byte{7, 8}
	for _, c := range bounds {
		for _, n := range []int{math.MinInt, c.least - 1, c.most + 1, math.MaxInt} {
			if got := Put(b, n, c.size); !bytes.Equal(got, b) {
				t.Errorf("Put(b, %d, %d) is %v", n, c.size, got)
			}
		}
	}
	for _, size := range wrongSizes {
		if got := Put(b, 1, size); !bytes.Equal(got, b) {
			t.Errorf("Put(b, 1, %d) is %v", size, got)
		}
		if got := Put(nil, 1, size); len(got) != 0 {
			t.Errorf("Put(nil, 1, %d) is %v", size, got)
		}
	}
}

// P1.1: what Put is handed stays as it is, its spare room included, and is not shared with the answer.
func TestPutApart(t *testing.T) {
	for _, n := range []int{1, 256} { // 256 is not Right: b alone
		room := []byte{7, 8, 9, 10}
		got := Put(room[:2], n, 1)
		for i := range got {
			got[i] = 99
		}
		_ = append(got, 98)
		if !bytes.Equal(room, []byte{7, 8, 9, 10}) {
			t.Errorf("Put(b, %d, 1) left %v", n, room)
		}
	}
}

// P1.2: Get of Put is the number, Signed, if it was below 0.
func TestGetOfPut(t *testing.T) {
	for _, b := range bounds {
		step := (b.most - b.least) / 1000
		for n := b.least; n <= b.most; n += step + 1 {
			checkRound(t, n, b.size)
		}
		for _, n := range []int{b.least, -1, 0, b.half - 1, b.half, b.most} {
			checkRound(t, n, b.size)
		}
	}
}

func checkRound(t *testing.T, n, size int) {
	t.Helper()
	got, e := Get(Put([]byte{1, 2, 3}, n, size), 3, size)
	if n < 0 {
		got = Signed(got, size)
	}
	if got != n || e != api.OK {
		t.Errorf("Get of Put(%d, %d) is %d, %d", n, size, got, e)
	}
}
