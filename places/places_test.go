package places_test

import (
	"math"
	"slices"
	"strconv"
	"testing"

	"nestbox/api"
	"nestbox/fnvs"
	"nestbox/places"
)

func spot(bits, bucket, slot int) api.Spot {
	return api.Spot{Place: api.Place{Bits: bits, Bucket: bucket}, Slot: slot}
}

func TestP8_1(t *testing.T) {
	for _, c := range []struct {
		s                   api.Spot
		tags, item, version api.Addr
	}{
		{spot(4, 5, 2), 4264, 4267, 65}, {spot(1, 0, 0), 4112, 4113, 95}, {spot(1, 1, 3), 4120, 4124, 96}, {spot(12, 4095, 3), 4096 + 8*8191, 4096 + 8*8191 + 4, 64 + api.Addr(4095+31*12)%64},
		{spot(4, 5, 4), 4264, 0, 65}, {spot(4, 5, -1), 4264, 0, 65}, {spot(4, 16, 0), 0, 0, 0}, {spot(4, -1, 0), 0, 0, 0}, {spot(0, 0, 0), 0, 0, 0}, {spot(13, 0, 0), 0, 0, 0}, {spot(-1, 0, 1), 0, 0, 0},
	} {
		if tags, item, version := places.Tags(c.s.Place), places.Item(c.s), places.Version(c.s.Place); tags != c.tags || item != c.item || version != c.version {
			t.Errorf("%v: %d %d %d", c.s, tags, item, version)
		}
	}
	for ref, a := range map[int]api.Addr{9: 4294967305, 1: 4294967297, 0: 0, -1: 0, -1 << 63: 0, math.MaxInt64: 1<<32 + math.MaxInt64} {
		if places.Ref(ref) != a {
			t.Error(ref, places.Ref(ref))
		}
	}
}

func TestP8_2(t *testing.T) {
	for _, c := range []struct {
		w                uint64
		old, now, target int
	}{
		{4, 4, 0, 4}, {1284, 4, 5, 5}, {1540, 4, 0, 4}, {0, 1, 0, 1}, {0x0200, 1, 2, 2}, {0x0201, 1, 2, 2}, {12, 12, 0, 12}, {0x0d0c, 12, 0, 12}, {0x0c0b, 11, 12, 12}, {13, 1, 0, 1}, {0x020d, 1, 2, 2}, {255, 1, 0, 1},
		{math.MaxUint64, 1, 0, 1}, {1284 | 1<<16, 4, 5, 5}, {1284 | 1<<63, 4, 5, 5}, {0x0304, 4, 0, 4}, {0x0404, 4, 0, 4},
	} {
		old, now := places.As(c.w)
		if old != c.old || now != c.now || places.Target(c.w) != c.target {
			t.Errorf("%x: %d %d", c.w, old, now)
		}
	}
	for _, c := range [][3]int{{4, 0, 4}, {4, 5, 1284}, {256 + 4, 256 + 5, 1284}, {-1, 0, 255}, {0, -1, 255 << 8}, {-252, 5, 1284}} {
		if w := places.Word(c[0], c[1]); w != uint64(c[2]) {
			t.Errorf("%v: %x", c, w)
		}
	}
}

func TestP8_3(t *testing.T) {
	h := fnvs.Hash("")
	p := places.Places(h, 4)
	if !slices.Equal(p, []api.Place{{Bits: 4, Bucket: 5}, {Bits: 4, Bucket: 2}}) || cap(p) != len(p) {
		t.Error(p)
	}
	if p := places.Places(h, 1284); !slices.Equal(p, []api.Place{{Bits: 4, Bucket: 5}, {Bits: 4, Bucket: 2}, {Bits: 5, Bucket: fnvs.Bucket(h, 5)}, {Bits: 5, Bucket: fnvs.Other(fnvs.Bucket(h, 5), 203, 5)}}) {
		t.Error(p)
	}
	if p := places.Places(2<<56, 0x0201); !slices.Equal(p, []api.Place{{Bits: 1}, {Bits: 2}, {Bits: 2, Bucket: 2}}) {
		t.Error(p)
	}
	if p := places.Places(2<<56|1, 0); !slices.Equal(p, []api.Place{{Bits: 1, Bucket: 1}}) {
		t.Error(p)
	}
	for w, n := range map[uint64]int{4: 64, 1284: 192, 0: 8, 12: 16384, 0x0c0b: 8192 + 16384} {
		if places.Spots(w) != n {
			t.Error(w, places.Spots(w))
		}
	}
	for _, c := range []struct {
		w uint64
		n int
		s api.Spot
	}{
		{1284, 70, spot(5, 1, 2)}, {1284, 0, spot(4, 0, 0)}, {1284, 63, spot(4, 15, 3)}, {1284, 64, spot(5, 0, 0)}, {1284, 191, spot(5, 31, 3)}, {1284, 192, spot(4, 0, 0)}, {1284, -1, spot(5, 31, 3)}, {1284, -192, spot(4, 0, 0)}, {4, 70, spot(4, 1, 2)}, {4, -1 << 63, spot(4, 0, 0)}, {4, math.MaxInt64, spot(4, 15, 3)},
	} {
		if s := places.At(c.w, c.n); s != c.s {
			t.Errorf("%d %d: %v", c.w, c.n, s)
		}
	}
}

func TestP8_4(t *testing.T) {
	for _, c := range []struct {
		first, budget, bits int
		may                 bool
	}{
		{2, 8, 2, true}, {2, 8, 3, true}, {2, 8, 4, false}, {1, 1, 1, true}, {1, 1, 2, true}, {1, 1, 3, false}, {2, -5, 3, true}, {2, math.MinInt64, 4, false}, {0, 8, 2, false}, {13, 8, 2, false}, {2, 8, 0, false}, {2, 8, 13, false}, {2, 8, -1, false},
		{12, 8, 12, false}, {12, 8, 11, true}, {1, 65536, 11, true}, {1, math.MaxInt64, 11, true}, {1, 65536, 12, false}, {1, 12, 2, true}, {1, 11, 3, false}, {1, 12, 3, true}, {1, 23, 4, false}, {1, 24, 4, true},
	} {
		if places.May(c.first, c.budget, c.bits) != c.may {
			t.Error(c)
		}
	}
}

func TestP8_5(t *testing.T) {
	seen := map[api.Addr]bool{}
	for a := api.Addr(0); a < 64+64; a++ {
		seen[a] = true
	}
	claim := func(a api.Addr) {
		if seen[a] || a == 0 {
			t.Fatalf("address %d twice", a)
		}
		seen[a] = true
	}
	for bits := 1; bits <= 12; bits++ {
		for b := range fnvs.Size(bits) {
			claim(places.Tags(api.Place{Bits: bits, Bucket: b}))
			for s := range 4 {
				claim(places.Item(spot(bits, b, s)))
			}
		}
	}
	for _, ref := range []int{1, 2, api.MaxItems} {
		claim(places.Ref(ref))
	}
	for _, w := range []uint64{1, 0x0201, 3, 0x0403, 0x0807} {
		old, now := places.As(w)
		numbers := map[api.Spot]bool{}
		for n := range places.Spots(w) {
			numbers[places.At(w, n)] = true
		}
		if len(numbers) != places.Spots(w) {
			t.Errorf("%x: spots", w)
		}
		for i := range 200 {
			h := fnvs.Hash(strconv.Itoa(i))
			in := map[int]int{}
			for _, p := range places.Places(h, w) {
				in[p.Bits]++
				if p.Bucket != fnvs.Bucket(h, p.Bits) && p.Bucket != fnvs.Other(fnvs.Bucket(h, p.Bits), fnvs.Tag(h), p.Bits) {
					t.Fatal(p)
				}
			}
			if in[old] < 1 || in[old] > 2 || now != 0 && (in[now] < 1 || in[now] > 2) || now == 0 && len(in) > 1 {
				t.Fatal(in)
			}
		}
	}
	for first := 1; first <= 12; first++ {
		for _, budget := range []int{1, 7, 100, 5000, 65536} {
			for bits := first; bits <= 12; bits++ {
				if places.May(first, budget, bits) && 12<<bits > 8*max(budget, 4<<first) {
					t.Error(first, budget, bits)
				}
			}
		}
	}
}
