package tagwords_test

import (
	"slices"
	"testing"

	"nestbox/tagwords"
)

func TestP2_1Tag(t *testing.T) {
	for _, c := range []struct {
		w         uint64
		slot, tag int
	}{{458752, 2, 7}, {458752, 0, 0}, {458752, 3, 0}, {1<<64 - 1, 0, 255}, {1<<64 - 1, 3, 255}, {1<<64 - 1, 4, 0}, {1<<64 - 1, -1, 0}, {1<<64 - 1, 1 << 62, 0}, {0xff << 32, 0, 0}} {
		if n := tagwords.Tag(c.w, c.slot); n != c.tag {
			t.Errorf("%x %d: %d", c.w, c.slot, n)
		}
	}
}

func TestP2_1With(t *testing.T) {
	for _, c := range []struct {
		w         uint64
		slot, tag int
		is        uint64
	}{
		{0, 2, 7, 458752}, {458752, 2, 0, 0}, {4294967296, 0, 1, 4294967297}, {1<<64 - 1, 3, 0, 1<<64 - 1 - 255<<24}, {0x01020304, 3, 255, 0xff020304},
		{5, 4, 1, 5}, {5, -1, 1, 5}, {5, 0, 256, 5}, {5, 0, -1, 5}, {5, 1 << 61, 1, 5},
	} {
		if w := tagwords.With(c.w, c.slot, c.tag); w != c.is {
			t.Errorf("%x %d %d: %x", c.w, c.slot, c.tag, w)
		}
	}
}

func TestP2_2(t *testing.T) {
	for _, c := range []struct {
		w           uint64
		tag         int
		has         []int
		free, count int
	}{
		{117440519, 7, []int{0, 3}, 1, 2}, {117440519, 8, nil, 1, 2}, {0, 0, nil, 0, 0}, {0, 1, nil, 0, 0}, {1<<64 - 1, 255, []int{0, 1, 2, 3}, -1, 4},
		{1<<64 - 1, 256, nil, -1, 4}, {1<<64 - 1, 511, nil, -1, 4}, {1<<64 - 1, -1, nil, -1, 4}, {0x00050505, 5, []int{0, 1, 2}, 3, 3}, {0x0505 << 32, 5, nil, 0, 0},
	} {
		has := tagwords.Has(c.w, c.tag)
		if !slices.Equal(has, c.has) || cap(has) != len(has) || tagwords.Free(c.w) != c.free || tagwords.Count(c.w) != c.count {
			t.Errorf("%x %d: %v %d %d", c.w, c.tag, has, tagwords.Free(c.w), tagwords.Count(c.w))
		}
	}
	a, b := tagwords.Has(0x0707, 7), tagwords.Has(0x0707, 7)
	a[0] = 9
	if b[0] != 0 {
		t.Error("shared memory")
	}
}

func TestP2_3(t *testing.T) {
	w := uint64(0x123456789abcdef0)
	for i := range 4000 {
		w = w*6364136223846793005 + 1442695040888963407
		slot, tag := i%4, int(w>>40&255)
		if i%7 == 0 {
			w &^= 255 << (8 * (i % 3))
		}
		is := tagwords.With(w, slot, tag)
		for s := range 4 {
			if s == slot && tagwords.Tag(is, s) != tag || s != slot && tagwords.Tag(is, s) != tagwords.Tag(w, s) {
				t.Fatalf("%x %d %d", w, slot, tag)
			}
		}
		if tagwords.With(is, slot, tagwords.Tag(w, slot)) != w {
			t.Fatalf("%x: not put back", w)
		}
		var all []int
		for g := 1; g < 256; g++ {
			all = append(all, tagwords.Has(w, g)...)
		}
		for s := range 4 {
			if tagwords.Tag(w, s) == 0 {
				all = append(all, s)
			}
		}
		slices.Sort(all)
		if !slices.Equal(all, []int{0, 1, 2, 3}) {
			t.Fatalf("%x: %v", w, all)
		}
		if f := tagwords.Free(w); f >= 0 && tagwords.Count(tagwords.With(w, f, 3)) != tagwords.Count(w)+1 {
			t.Fatalf("%x: one more", w)
		}
		low := w & (1<<32 - 1)
		if tagwords.Free(low) != tagwords.Free(w) || tagwords.Count(low) != tagwords.Count(w) || !slices.Equal(tagwords.Has(low, tag), tagwords.Has(w, tag)) {
			t.Fatalf("%x: upper bits tell", w)
		}
	}
}
