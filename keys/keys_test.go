package keys_test

import (
	"slices"
	"strings"
	"testing"

	"nestbox/keys"
)

func TestP3_1(t *testing.T) {
	for _, c := range []struct {
		key string
		f   keys.Fault
		at  int
	}{
		{"", keys.KyEmpty, 0}, {"a b", keys.KyByte, 1}, {strings.Repeat("a", 251), keys.KyLong, 0}, {strings.Repeat("a", 250), keys.KyNone, 0}, {"key", keys.KyNone, 0},
		{strings.Repeat(" ", 251), keys.KyLong, 0}, {"\x00", keys.KyByte, 0}, {"ab\x7f ", keys.KyByte, 2}, {"\x80\xff~!", keys.KyNone, 0}, {"a\t", keys.KyByte, 1}, {"ab\n", keys.KyByte, 2},
		{strings.Repeat("a", 249) + " ", keys.KyByte, 249},
	} {
		f, at := keys.Look(c.key)
		if f != c.f || at != c.at || keys.Ok(c.key) != (c.f == keys.KyNone) {
			t.Errorf("%q: %d %d", c.key, f, at)
		}
	}
	if keys.KyNone != 0 || keys.KyEmpty != 1 || keys.KyLong != 2 || keys.KyByte != 3 {
		t.Error("numbers")
	}
}

func TestP3_2(t *testing.T) {
	for n, is := range map[int]bool{-1: false, 0: true, 1: true, 1024: true, 1025: false, 1 << 62: false, -1 << 63: false} {
		if keys.Room(n) != is {
			t.Error(n)
		}
		if n >= 0 && n < 2000 && keys.Value(strings.Repeat("\x00", n)) != is {
			t.Error("value", n)
		}
	}
}

func TestP3_3(t *testing.T) {
	for _, c := range []struct {
		line  string
		words []string
	}{
		{"  get a  ", []string{"get", "a"}}, {"", nil}, {"   ", nil}, {"a", []string{"a"}}, {"a\tb c", []string{"a\tb", "c"}}, {"a b\r", []string{"a", "b\r"}}, {" \x00 \xff", []string{"\x00", "\xff"}},
	} {
		words := keys.Words(c.line)
		if !slices.Equal(words, c.words) || cap(words) != len(words) {
			t.Errorf("%q: %q", c.line, words)
		}
	}
}

func TestP3_4(t *testing.T) {
	for b := range 256 {
		for at := range 5 {
			key := []byte("abcde")
			key[at] = byte(b)
			f, where := keys.Look(string(key))
			if bad := b <= 32 || b == 127; bad != (f == keys.KyByte) || bad && where != at || !bad && f != keys.KyNone {
				t.Fatalf("%q: %d %d", key, f, where)
			}
			if f == keys.KyNone && !slices.Equal(keys.Words(string(key)), []string{string(key)}) {
				t.Fatalf("%q is not its one word", key)
			}
		}
	}
	want := []string{"x", "yy", "\t", "z\n"}
	for n := 1; n < 5; n++ {
		gap := strings.Repeat(" ", n)
		for _, line := range []string{strings.Join(want, gap), gap + strings.Join(want, gap), strings.Join(want, gap) + gap} {
			if words := keys.Words(line); !slices.Equal(words, want) {
				t.Errorf("%q: %q", line, words)
			}
		}
	}
}
