package fnvs_test

import (
	"strconv"
	"strings"
	"testing"

	"nestbox/api"
	"nestbox/fnvs"
)

func TestP1_1Hash(t *testing.T) {
	for _, c := range []struct {
		key  string
		hash uint64
		tag  int
	}{
		{"", 14695981039346656037, 203},
		{"a", 0xaf63dc4c8601ec8c, 0xaf},
		{"foobar", 0x85944171f73967e8, 0x85},
		{"\x00", 0xaf63bd4c8601b7df, 0xaf},
		{"\xff", 0xaf64724c8602eb6e, 0xaf},
	} {
		if h := fnvs.Hash(c.key); h != c.hash || fnvs.Tag(h) != c.tag {
			t.Errorf("%q: %x, tag %d", c.key, h, fnvs.Tag(h))
		}
	}
	long := strings.Repeat("x", 10000)
	want := uint64(14695981039346656037)
	for _, b := range []byte(long) {
		want = (want ^ uint64(b)) * 1099511628211
	}
	if h := fnvs.Hash(long); h != want {
		t.Errorf("long: %x", h)
	}
}

func TestP1_1Tag(t *testing.T) {
	for h, tag := range map[uint64]int{0: 1, 1<<56 - 1: 1, 1 << 56: 1, 2 << 56: 2, 127 << 56: 127, 1 << 63: 128, 1<<64 - 1: 255} {
		if n := fnvs.Tag(h); n != tag {
			t.Errorf("%x: %d", h, n)
		}
	}
}

func TestP1_2(t *testing.T) {
	for bits, size := range map[int]int{-1: 0, 0: 0, 1: 2, 2: 4, 11: 2048, 12: 4096, 13: 0, 64: 0, 1 << 40: 0, -1 << 63: 0} {
		if n := fnvs.Size(bits); n != size {
			t.Errorf("size %d: %d", bits, n)
		}
		b := fnvs.Bucket(1<<64-1, bits)
		if b != size-1 {
			t.Errorf("bucket %d: %d", bits, b)
		}
	}
	if b := fnvs.Bucket(fnvs.Hash(""), 4); b != 5 {
		t.Errorf("bucket: %d", b)
	}
	for _, c := range [][4]int{
		{5, 203, 4, 2}, {2, 203, 4, 5}, {3, 2, 1, -1}, {0, 2, 1, 0}, {0, 1, 1, 1}, {1, 255, 12, 1 ^ 255*1540483477%4096},
		{0, 0, 4, -1}, {0, -1, 4, -1}, {0, 256, 4, -1}, {-1, 1, 4, -1}, {16, 1, 4, -1}, {15, 16, 4, 15}, {0, 1, 0, -1}, {0, 1, 13, -1},
	} {
		if n := fnvs.Other(c[0], c[1], c[2]); n != c[3] {
			t.Errorf("%v: %d", c, n)
		}
	}
}

func TestP1_3(t *testing.T) {
	for p, s := range map[api.Place]int{
		{Bits: 4, Bucket: 5}: 1, {Bits: 1, Bucket: 0}: 31, {Bits: 1, Bucket: 1}: 32, {Bits: 2, Bucket: 3}: 1, {Bits: 12, Bucket: 4095}: (4095 + 372) % 64,
		{Bits: 1, Bucket: 2}: -1, {Bits: 1, Bucket: -1}: -1, {Bits: 0, Bucket: 0}: -1, {Bits: 13, Bucket: 0}: -1, {}: -1,
	} {
		if n := fnvs.Stripe(p); n != s {
			t.Errorf("%v: %d", p, n)
		}
	}
}

func TestP1_4(t *testing.T) {
	for i := range 300 {
		h := fnvs.Hash("key" + strconv.Itoa(i))
		tag := fnvs.Tag(h)
		for bits := 1; bits <= 12; bits++ {
			b, size := fnvs.Bucket(h, bits), fnvs.Size(bits)
			o := fnvs.Other(b, tag, bits)
			if o < 0 || o >= size || fnvs.Other(o, tag, bits) != b {
				t.Fatalf("%d bits: %d and %d", bits, b, o)
			}
			if bits < 12 {
				more := fnvs.Bucket(h, bits+1)
				if more%size != b || fnvs.Other(more, tag, bits+1)%size != o {
					t.Fatalf("%d bits more: %d", bits, more)
				}
			}
			p := api.Place{Bits: bits, Bucket: b}
			next := api.Place{Bits: bits, Bucket: b ^ 1}
			if fnvs.Stripe(p) == fnvs.Stripe(next) {
				t.Fatalf("neighbours: %v", p)
			}
		}
	}
}
