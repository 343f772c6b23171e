package nums_test

import (
	"math"
	"strings"
	"testing"

	"nestbox/nums"
)

func TestP4_1(t *testing.T) {
	for _, c := range []struct {
		text string
		n    uint64
		ok   bool
	}{
		{"0", 0, true}, {"0042", 42, true}, {"18446744073709551615", math.MaxUint64, true}, {"18446744073709551616", 0, false}, {"18446744073709551620", 0, false}, {"99999999999999999999", 0, false},
		{"", 0, false}, {"+1", 0, false}, {"-1", 0, false}, {" 1", 0, false}, {"1 ", 0, false}, {"1a", 0, false}, {strings.Repeat("0", 20), 0, true}, {strings.Repeat("0", 21), 0, false},
		{"00000000000000000007", 7, true}, {"000000000000000000007", 0, false}, {"/", 0, false}, {":", 0, false}, {"\u0661", 0, false}, {"1\xff", 0, false}, {"\x001", 0, false},
	} {
		if n, ok := nums.Parse(c.text); n != c.n || ok != c.ok {
			t.Errorf("%q: %d %v", c.text, n, ok)
		}
	}
}

func TestP4_1Signed(t *testing.T) {
	for _, c := range []struct {
		text string
		n    int64
		ok   bool
	}{
		{"0", 0, true}, {"-0", 0, true}, {"9223372036854775807", math.MaxInt64, true}, {"9223372036854775808", 0, false}, {"-9223372036854775808", math.MinInt64, true}, {"-9223372036854775809", 0, false},
		{"-", 0, false}, {"", 0, false}, {"--1", 0, false}, {"-1", -1, true}, {"+1", 0, false}, {"- 1", 0, false}, {"-" + strings.Repeat("0", 19) + "5", -5, true}, {"-" + strings.Repeat("0", 20) + "5", 0, false}, {"18446744073709551615", 0, false}, {"-18446744073709551615", 0, false},
	} {
		if n, ok := nums.ParseSigned(c.text); n != c.n || ok != c.ok {
			t.Errorf("%q: %d %v", c.text, n, ok)
		}
	}
	for text, want := range map[string]int64{"4294967295": 4294967295, "4294967296": -1, "0": 0, "": -1, "-1": -1, "00000004294967295": 4294967295, "18446744073709551615": -1} {
		n, ok := nums.Parse32(text)
		if ok != (want >= 0) || ok && int64(n) != want || !ok && n != 0 {
			t.Errorf("%q: %d %v", text, n, ok)
		}
	}
}

func TestP4_2(t *testing.T) {
	for n, text := range map[uint64]string{0: "0", 9: "9", 10: "10", 42: "42", math.MaxUint64: "18446744073709551615", 1 << 63: "9223372036854775808"} {
		if s := nums.Text(n); s != text {
			t.Errorf("%d: %q", n, s)
		}
	}
}

func TestP4_3(t *testing.T) {
	for _, c := range [][4]uint64{{math.MaxUint64, 2, 1, math.MaxUint64 - 2}, {3, 5, 8, 0}, {5, 5, 10, 0}, {6, 5, 11, 1}, {0, 0, 0, 0}, {0, math.MaxUint64, math.MaxUint64, 0}, {math.MaxUint64, 5, 4, math.MaxUint64 - 5}} {
		if up, down := nums.Incr(c[0], c[1]), nums.Decr(c[0], c[1]); up != c[2] || down != c[3] {
			t.Errorf("%d by %d: %d %d", c[0], c[1], up, down)
		}
	}
}

func TestP4_4(t *testing.T) {
	n, last := uint64(1), uint64(0)
	for i := range 3000 {
		last = n
		n = n*6364136223846793005 + 1442695040888963407
		if i%3 == 0 {
			n >>= uint(i % 64)
		}
		text := nums.Text(n)
		if len(text) > 1 && text[0] == '0' {
			t.Fatalf("%d: %q", n, text)
		}
		for noughts := range 24 {
			long := strings.Repeat("0", noughts) + text
			m, ok := nums.Parse(long)
			if ok != (len(long) <= 20) || ok && m != n {
				t.Fatalf("%q: %d %v", long, m, ok)
			}
		}
		if m, ok := nums.ParseSigned("-" + text); ok != (n <= 1<<63) || ok && m != -int64(n) {
			t.Fatalf("-%s: %d %v", text, m, ok)
		}
		if s := nums.Text(last); len(s) == len(text) && (s < text) != (last < n) {
			t.Fatalf("%s and %s", s, text)
		}
		if up := nums.Incr(n, last); up >= n && nums.Decr(up, last) != n {
			t.Fatalf("%d up and down by %d", n, last)
		}
		if nums.Decr(n, last) > n {
			t.Fatalf("%d is more by %d less", n, last)
		}
		if _, ok := nums.Parse(text[:len(text)/2] + "x" + text[len(text)/2:]); ok {
			t.Fatalf("%s with a letter", text)
		}
	}
}
