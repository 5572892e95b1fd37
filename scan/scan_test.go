package scan

import (
	"bytes"
	"math"
	"strings"
	"testing"
)

// checkBad holds that s is bad, and that each call answers nothing then, and leaves it so.
func checkBad(t *testing.T, what string, s *Scan) {
	t.Helper()
	for range 2 {
		if !s.Bad() || s.Done() || s.Left() != 0 {
			t.Fatalf("%s: Bad %v, Done %v, Left %d", what, s.Bad(), s.Done(), s.Left())
		}
		for _, size := range []int{1, 2, 4, 0, 3, -1} {
			if n := s.Num(size); n != 0 {
				t.Fatalf("%s: Num(%d) is %d", what, size, n)
			}
		}
		if text := s.Text(); text != "" {
			t.Fatalf("%s: Text is %q", what, text)
		}
		for _, n := range []int{0, 1, 100, -1} {
			if b := s.Take(n); len(b) != 0 {
				t.Fatalf("%s: Take(%d) is %v", what, n, b)
			}
		}
	}
}

// checkLeft holds that s is not bad, and how many bytes are left.
func checkLeft(t *testing.T, what string, s *Scan, left int) {
	t.Helper()
	if s.Bad() || s.Left() != left || s.Done() != (left == 0) {
		t.Fatalf("%s: Bad %v, Left %d, Done %v, not %d left", what, s.Bad(), s.Left(), s.Done(), left)
	}
}

// P3.1: Num reads the next number of each size, the highest byte first, without a sign.
func TestNum(t *testing.T) {
	s := New([]byte{255, 1, 2, 255, 255, 255, 254, 0, 0, 128, 0})
	for _, c := range []struct{ size, want, left int }{
		{1, 255, 10}, {2, 258, 8}, {4, 4294967294, 4}, {1, 0, 3}, {1, 0, 2}, {2, 32768, 0},
	} {
		if n := s.Num(c.size); n != c.want {
			t.Fatalf("Num(%d) is %d, not %d", c.size, n, c.want)
		}
		checkLeft(t, "Num", s, c.left)
	}
}

// P3.1: a number that is not there whole makes it bad, even if fewer bytes would be.
func TestNumShort(t *testing.T) {
	for _, c := range []struct {
		b    []byte
		size int
	}{
		{nil, 1}, {nil, 2}, {nil, 4}, {[]byte{}, 1}, {[]byte{1}, 2}, {[]byte{1}, 4}, {[]byte{1, 2, 3}, 4},
	} {
		s := New(c.b)
		if n := s.Num(c.size); n != 0 {
			t.Errorf("Num(%d) of %v is %d", c.size, c.b, n)
		}
		checkBad(t, "a short number", s)
	}
}

// P3.1: a number of no size can't be had.
func TestNumSize(t *testing.T) {
	for _, size := range []int{math.MinInt, -4, -2, -1, 0, 3, 5, 6, 8, 16, math.MaxInt} {
		s := New(bytes.Repeat([]byte{7}, 32))
		if n := s.Num(size); n != 0 {
			t.Errorf("Num(%d) is %d", size, n)
		}
		checkBad(t, "a wrong size", s)
	}
}

// P3.1: Text reads up to the next byte 0, and that, too; an empty text is one.
func TestText(t *testing.T) {
	long := strings.Repeat("x", 70000)
	s := New([]byte("a\x00\x00b c\xff\"\x00" + long + "\x00rest"))
	for _, c := range []struct {
		want string
		left int
	}{
		{"a", 7 + 70001 + 4}, {"", 6 + 70001 + 4}, {"b c\xff\"", 70001 + 4}, {long, 4},
	} {
		if got := s.Text(); got != c.want {
			t.Fatalf("Text is %q, not %q", got, c.want)
		}
		checkLeft(t, "Text", s, c.left)
	}
}

// P3.1: a text without its byte 0 makes it bad.
func TestTextOpen(t *testing.T) {
	for _, b := range []string{"", "a", "abc\xff"} {
		s := New([]byte(b))
		if got := s.Text(); got != "" {
			t.Errorf("Text of %q is %q", b, got)
		}
		checkBad(t, "an open text", s)
	}
	s := New([]byte("a\x00b"))
	if s.Text() != "a" || s.Text() != "" {
		t.Error("the text behind another one")
	}
	checkBad(t, "an open text behind another one", s)
}

// P3.1: Take reads the next n bytes, none of them at any place, the end too.
func TestTake(t *testing.T) {
	s := New([]byte{1, 0, 3, 4, 5})
	for _, c := range []struct {
		n    int
		want []byte
		left int
	}{
		{0, nil, 5}, {2, []byte{1, 0}, 3}, {0, nil, 3}, {1, []byte{3}, 2}, {2, []byte{4, 5}, 0}, {0, nil, 0},
	} {
		if got := s.Take(c.n); !bytes.Equal(got, c.want) {
			t.Fatalf("Take(%d) is %v, not %v", c.n, got, c.want)
		}
		checkLeft(t, "Take", s, c.left)
	}
}

// P3.1: more bytes than there are, and fewer than none, make it bad.
func TestTakeWrong(t *testing.T) {
	for _, n := range []int{math.MinInt, -2, -1, 4, 5, math.MaxInt - 1, math.MaxInt} {
		s := New([]byte{1, 2, 3})
		if got := s.Take(n); len(got) != 0 {
			t.Errorf("Take(%d) is %v", n, got)
		}
		checkBad(t, "a wrong Take", s)
	}
	s := New([]byte{1, 2, 3})
	s.Take(2)
	if got := s.Take(2); len(got) != 0 {
		t.Errorf("Take of one too many is %v", got)
	}
	checkBad(t, "Take of one too many", s)
}

// P3.1: of no bytes all was read.
func TestNone(t *testing.T) {
	for _, b := range [][]byte{nil, {}} {
		checkLeft(t, "no bytes", New(b), 0)
	}
}

// P3.1: what was done is bad, if more is asked of it.
func TestBehindDone(t *testing.T) {
	for i, ask := range []func(s *Scan){
		func(s *Scan) { s.Num(1) }, func(s *Scan) { s.Text() }, func(s *Scan) { s.Take(1) }, func(s *Scan) { s.Take(-1) },
	} {
		s := New([]byte("a\x00"))
		s.Text()
		checkLeft(t, "at the end", s, 0)
		ask(s)
		checkBad(t, "behind the end "+string(rune('0'+i)), s)
	}
}

// P3.1: of what no call made all is bad.
func TestNotMade(t *testing.T) {
	checkBad(t, "nil", nil)
	checkBad(t, "zero", &Scan{})
	for _, s := range []*Scan{nil, {}} {
		if s.Num(1) != 0 || s.Num(9) != 0 || s.Text() != "" || len(s.Take(0)) != 0 || len(s.Take(-1)) != 0 {
			t.Error("something is read of what no call made")
		}
	}
}

// P3.1: what is handed in is not kept, nor its spare room read.
func TestApart(t *testing.T) {
	room := []byte{1, 2, 3, 4, 5, 6}
	s := New(room[:4])
	copy(room, []byte{9, 9, 9, 9})
	if n := s.Num(2); n != 258 {
		t.Errorf("Num is %d, once the bytes were changed", n)
	}
	got := s.Take(2)
	if !bytes.Equal(got, []byte{3, 4}) {
		t.Errorf("Take is %v, once the bytes were changed", got)
	}
	got[0] = 77
	if !bytes.Equal(room, []byte{9, 9, 9, 9, 5, 6}) {
		t.Errorf("what was handed in is %v", room)
	}
	if s.Take(1); !s.Bad() {
		t.Error("the spare room is read")
	}
}

// P3.1: what was taken is not shared: who changes it, and adds to it, changes nothing that is still to be read.
func TestTakenApart(t *testing.T) {
	s := New([]byte{1, 2, 3, 4, 'a', 0})
	for _, want := range [][]byte{{}, {1, 2}, {3}} {
		got := s.Take(len(want))
		if !bytes.Equal(got, want) {
			t.Fatalf("Take is %v, not %v", got, want)
		}
		for i := range got {
			got[i] = 99
		}
		_ = append(got, 98, 97, 96)
	}
	if n := s.Num(1); n != 4 {
		t.Errorf("Num is %d", n)
	}
	if text := s.Text(); text != "a" || !s.Done() {
		t.Errorf("Text is %q", text)
	}
}

// P3.1: what is asked without reading may be asked again.
func TestAsked(t *testing.T) {
	s := New([]byte{1, 2})
	for range 3 {
		checkLeft(t, "asked", s, 2)
	}
	if s.Num(2) != 258 {
		t.Error("asking has read")
	}
}

// P3.2: what is read, one behind the other, is the bytes, in whatever parts.
func TestAll(t *testing.T) {
	all := []byte("ab\x00\x00\x01\x02\xff\xfe\x00cde\x00\x80\x00\x00\x00\x7f\xff tail")
	for seed := range 200 {
		s := New(all)
		var got []byte
		for step := seed; !s.Done(); step = step*7 + 3 {
			got = append(got, part(s, step%5)...)
			if s.Bad() || s.Left() != len(all)-len(got) {
				t.Fatalf("seed %d: Bad %v, Left %d behind %v", seed, s.Bad(), s.Left(), got)
			}
		}
		if !bytes.Equal(got, all) {
			t.Fatalf("seed %d: %v is read", seed, got)
		}
	}
}

// part reads something that can be had, by kind, and answers which bytes that must have been.
func part(s *Scan, kind int) []byte {
	switch {
	case kind == 0 && s.Left() > 15: // up to there stands a byte 0
		return append([]byte(s.Text()), 0)
	case kind == 1 && s.Left() >= 2:
		n := s.Num(2)
		return []byte{byte(n >> 8), byte(n)}
	case kind == 2 && s.Left() >= 4:
		n := s.Num(4)
		return []byte{byte(n >> 24), byte(n >> 16), byte(n >> 8), byte(n)}
	case kind == 3:
		return s.Take(min(3, s.Left()))
	}
	return []byte{byte(s.Num(1))}
}
