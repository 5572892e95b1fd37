package digits

import (
	"math"
	"strconv"
	"strings"
	"testing"
)

// P2.1: Text tells the decimal digits, with - ahead below 0.
func TestText(t *testing.T) {
	for _, c := range []struct {
		n    int
		want string
	}{
		{0, "0"}, {7, "7"}, {9, "9"}, {10, "10"}, {99, "99"}, {100, "100"}, {1050, "1050"},
		{-1, "-1"}, {-9, "-9"}, {-10, "-10"}, {-12, "-12"}, {-120, "-120"},
		{9999999999, "9999999999"}, {10000000000, "10000000000"},
		{math.MaxInt, "9223372036854775807"}, {math.MinInt, "-9223372036854775808"}, {math.MinInt + 1, "-9223372036854775807"},
	} {
		if got := Text(c.n); got != c.want {
			t.Errorf("Text(%d) is %q", c.n, got)
		}
	}
	for n := -12345; n <= 12345; n++ {
		if got := Text(n); got != strconv.Itoa(n) {
			t.Fatalf("Text(%d) is %q", n, got)
		}
	}
}

// P2.1: Parse reads one to ten digits, up to most.
func TestParse(t *testing.T) {
	for _, c := range []struct {
		s    string
		most int
		want int
	}{
		{"0", 0, 0}, {"0", 5, 0}, {"1", 1, 1}, {"9", 9, 9}, {"10", 10, 10}, {"200", 200, 200}, {"199", 200, 199},
		{"1002003004", 9999999999, 1002003004}, {"9999999999", 9999999999, 9999999999}, {"9999999999", math.MaxInt, 9999999999},
	} {
		if n, ok := Parse(c.s, c.most); n != c.want || !ok {
			t.Errorf("Parse(%q, %d) is %d, %v", c.s, c.most, n, ok)
		}
	}
}

// P2.1: Parse refuses a number above most.
func TestParseMost(t *testing.T) {
	for _, c := range []struct {
		s    string
		most int
	}{
		{"201", 200}, {"1", 0}, {"0", -1}, {"5", -5}, {"0", math.MinInt}, {"9999999999", 9999999998}, {"10", 9},
	} {
		if n, ok := Parse(c.s, c.most); n != 0 || ok {
			t.Errorf("Parse(%q, %d) is %d, %v", c.s, c.most, n, ok)
		}
	}
}

// P2.1: Parse refuses no digits, more than ten, noughts ahead, and all that is no digit, wherever it stands.
func TestParseForm(t *testing.T) {
	for _, s := range []string{
		"", "00", "01", "007", "0000000000", "0000000001", "10000000000", "00000000001", "12345678901", strings.Repeat("1", 1000),
		"-1", "-0", "+1", " 1", "1 ", "1a", "a1", "1/1", "1:1", "/", ":", "1.0", "1_0", "0x1", "\x00", "1\x00", "\x001",
		"\u0663", "\uff11", "18446744073709551617", "\xff",
	} {
		if n, ok := Parse(s, math.MaxInt); n != 0 || ok {
			t.Errorf("Parse(%q) is %d, %v", s, n, ok)
		}
	}
	for c := range 256 {
		_, ok := Parse("1"+string([]byte{byte(c)}), 99)
		if ok != ('0' <= c && c <= '9') {
			t.Errorf("Parse of a 1 and the byte %d is %v", c, ok)
		}
	}
}

// P2.1: Clean holds unless there is a byte 0, wherever it stands.
func TestClean(t *testing.T) {
	for _, s := range []string{"", "a", "0", "\x01", "\xff", "\xc0\x80", "select 1", "\u0100"} {
		if !Clean(s) {
			t.Errorf("Clean(%q) is false", s)
		}
	}
	for _, s := range []string{"\x00", "\x00a", "a\x00", "a\x00b", "\x00\x00", "\xff\x00"} {
		if Clean(s) {
			t.Errorf("Clean(%q) is true", s)
		}
	}
}

// P2.1: Quote puts a byte 34 on both sides, and leaves what is within.
func TestQuote(t *testing.T) {
	for _, s := range []string{"", "a", "a b", `"`, `a"b`, `\`, "\n", "\x00", "\xff", "'"} {
		if got, want := Quote(s), string([]byte{34})+s+string([]byte{34}); got != want {
			t.Errorf("Quote(%q) is %q", s, got)
		}
	}
}

// P2.2: Parse of Text is the number, from 0 to 9999999999, and beyond there is none.
func TestParseOfText(t *testing.T) {
	const top = 9999999999
	for n := 0; n <= top; n += 9999991 {
		checkRound(t, n)
	}
	for tens := 1; tens <= 1000000000; tens *= 10 {
		for _, n := range []int{tens - 1, tens, tens + 1, 10*tens - 1} {
			checkRound(t, n)
		}
	}
	checkRound(t, top)
	for _, n := range []int{-1, top + 1, math.MinInt, math.MaxInt} {
		if got, ok := Parse(Text(n), math.MaxInt); got != 0 || ok {
			t.Errorf("Parse of Text(%d) is %d, %v", n, got, ok)
		}
	}
}

func checkRound(t *testing.T, n int) {
	t.Helper()
	if got, ok := Parse(Text(n), n); got != n || !ok {
		t.Errorf("Parse of Text(%d) is %d, %v", n, got, ok)
	}
}
