package scripts_test

import (
	"bytes"
	"testing"

	"nestbox/scripts"
)

func same(a, b []scripts.Cmd) bool {
	if len(a) != len(b) {
		return false
	}
	for i, x := range a {
		if x.Kind != b[i].Kind || x.Conn != b[i].Conn || !bytes.Equal(x.Bytes, b[i].Bytes) || cap(x.Bytes) != len(x.Bytes) {
			return false
		}
	}
	return cap(a) == len(a)
}

func feed(conn int, text string) scripts.Cmd {
	return scripts.Cmd{Kind: scripts.CmFeed, Conn: conn, Bytes: []byte(text)}
}

func pick(conn int) scripts.Cmd {
	return scripts.Cmd{Kind: scripts.CmPick, Conn: conn}
}

func TestP33_1(t *testing.T) {
	tick := scripts.Cmd{Kind: scripts.CmTick}
	for _, c := range []struct {
		b    []byte
		want []scripts.Cmd
	}{
		{[]byte{3, 2, 104, 105, 70, 200, 5, 9, 1}, []scripts.Cmd{feed(3, "hi"), pick(6), tick, feed(5, "\x01")}},
		{nil, nil}, {[]byte{0}, []scripts.Cmd{feed(0, "")}}, {[]byte{63, 0}, []scripts.Cmd{feed(63, "")}}, {[]byte{0, 5}, []scripts.Cmd{feed(0, "")}},
		{[]byte{64, 127, 128, 191, 192, 255}, []scripts.Cmd{pick(0), pick(63), pick(0), pick(63), tick, tick}},
		{append([]byte{1, 255}, bytes.Repeat([]byte{200}, 256)...), []scripts.Cmd{feed(1, string(bytes.Repeat([]byte{200}, 255))), tick}},
	} {
		before := bytes.Clone(c.b)
		got := scripts.Parse(c.b)
		if !same(got, c.want) || !bytes.Equal(before, c.b) {
			t.Error(c.b, got)
		}
		for i := range c.b {
			c.b[i] = 77
		}
		if !same(got, c.want) {
			t.Error("shared memory")
		}
	}
}

func TestP33_2(t *testing.T) {
	l := []scripts.Cmd{feed(3, "hi"), pick(63), {Kind: scripts.CmTick}, feed(0, "")}
	b, ok := scripts.Print(l)
	if !ok || !bytes.Equal(b, []byte{3, 2, 104, 105, 127, 192, 0, 0}) || cap(b) != len(b) {
		t.Error(b, ok)
	}
	b[2] = 0
	if l[0].Bytes[0] != 'h' {
		t.Error("shared memory")
	}
	if b, ok := scripts.Print(nil); len(b) != 0 || !ok {
		t.Error("of none")
	}
	long := feed(1, string(make([]byte, 255)))
	if b, ok := scripts.Print([]scripts.Cmd{long}); len(b) != 257 || !ok {
		t.Error(len(b))
	}
	for i, x := range []scripts.Cmd{pick(64), pick(-1), feed(64, ""), feed(-1, ""), feed(1, string(make([]byte, 256))), {Kind: 3}, {Kind: 255}, {Kind: scripts.CmTick, Conn: 1}, {Kind: scripts.CmTick, Conn: -1}, {Kind: scripts.CmTick, Bytes: []byte{1}}, {Kind: scripts.CmPick, Bytes: []byte{1}}, pick(1 << 40)} {
		if b, ok := scripts.Print([]scripts.Cmd{pick(1), x}); b != nil || ok {
			t.Error(i, b)
		}
	}
}

func TestP33_3(t *testing.T) {
	x := uint64(3)
	random := func(n int) []byte {
		b := make([]byte, n)
		for i := range b {
			x = x*6364136223846793005 + 1442695040888963407
			b[i] = byte(x >> 40)
			if x>>60 < 6 && i > 0 {
				b[i] &= 7
			}
		}
		return b
	}
	for i := range 2000 {
		a, b := random(i%60), random(i%31)
		l := scripts.Parse(a)
		if len(l) > len(a) {
			t.Fatal("longer than its bytes", a)
		}
		own, ok := scripts.Print(l)
		if back := scripts.Parse(own); !ok || !same(back, l) {
			t.Fatal(a, own)
		}
		if both := scripts.Parse(append(bytes.Clone(own), b...)); !same(both[:len(l):len(l)], l) || !same(both[len(l):], scripts.Parse(b)) {
			t.Fatal(own, b)
		}
	}
}
