package epochs_test

import (
	"math"
	"testing"

	"nestbox/api"
	"nestbox/epochs"
)

func TestP7_1(t *testing.T) {
	for _, c := range []struct {
		now, at, gen int
		w            uint64
	}{
		{5, 0, 0, 5}, {0, 0, 1, 281474976710656}, {0, 1, 0, 1 << 24}, {api.MaxTick, api.MaxTick, api.MaxGen, math.MaxUint64}, {1 << 24, 1<<24 + 3, 1<<16 + 2, 3<<24 | 2<<48}, {-1, -1, -1, math.MaxUint64}, {-1 << 63, 0, 0, 0},
	} {
		w := epochs.Put(c.now, c.at, c.gen)
		if w != c.w || epochs.Now(w) != c.now&api.MaxTick || epochs.At(w) != c.at&api.MaxTick || epochs.Gen(w) != c.gen&api.MaxGen {
			t.Errorf("%v: %d", c, w)
		}
	}
}

func TestP7_2Tick(t *testing.T) {
	for _, c := range [][6]int{
		{5, 0, 0, 6, 0, 0}, {5, 8, 1, 6, 8, 1}, {7, 8, 1, 8, 0, 2}, {9, 8, 1, 10, 0, 2}, {api.MaxTick, 0, 3, api.MaxTick, 0, 3}, {api.MaxTick, api.MaxTick, 3, api.MaxTick, 0, 4},
		{api.MaxTick - 1, api.MaxTick, 3, api.MaxTick, 0, 4}, {7, 8, api.MaxGen, 8, 0, api.MaxGen}, {0, 1, 0, 1, 0, 1}, {5, 5, 0, 6, 0, 1},
	} {
		if w := epochs.Tick(epochs.Put(c[0], c[1], c[2])); w != epochs.Put(c[3], c[4], c[5]) {
			t.Errorf("%v: %d %d %d", c, epochs.Now(w), epochs.At(w), epochs.Gen(w))
		}
	}
}

func TestP7_2Flush(t *testing.T) {
	if w, is := epochs.Flush(5, 0); w != 281474976710661 || !is {
		t.Error(w, is)
	}
	w, is := epochs.Flush(5, 3)
	if w != epochs.Put(5, 8, 0) || !is || epochs.Tick(epochs.Tick(epochs.Tick(w))) != epochs.Put(8, 0, 1) {
		t.Error(w, is)
	}
	for _, c := range []struct {
		w     uint64
		delay int64
		want  uint64
		is    bool
	}{
		{epochs.Put(5, 9, 2), -1, epochs.Put(5, 0, 3), true}, {epochs.Put(5, 9, 2), math.MinInt64, epochs.Put(5, 0, 3), true}, {epochs.Put(5, 9, 2), 1, epochs.Put(5, 6, 2), true},
		{epochs.Put(5, 9, 2), math.MaxInt64, epochs.Put(5, api.MaxTick, 2), true}, {epochs.Put(5, 0, 2), api.MaxTick - 5, epochs.Put(5, api.MaxTick, 2), true}, {epochs.Put(5, 0, 2), api.MaxTick - 6, epochs.Put(5, api.MaxTick-1, 2), true},
		{epochs.Put(api.MaxTick, 0, 2), 7, epochs.Put(api.MaxTick, api.MaxTick, 2), true}, {epochs.Put(5, 9, api.MaxGen), 0, epochs.Put(5, 9, api.MaxGen), false}, {epochs.Put(5, 9, api.MaxGen), 4, epochs.Put(5, 9, api.MaxGen), false},
		{epochs.Put(5, 9, api.MaxGen-1), 0, epochs.Put(5, 0, api.MaxGen), true},
	} {
		if w, is := epochs.Flush(c.w, c.delay); w != c.want || is != c.is {
			t.Errorf("%v: %d %v", c, w, is)
		}
	}
}

func TestP7_3(t *testing.T) {
	for _, c := range []struct {
		w   uint64
		exp int64
		d   int
	}{
		{5, 0, -1}, {5, -1, 5}, {5, 10, 15}, {5, 2592001, 2592001}, {5, 2592000, 2592005}, {5, math.MinInt64, 5}, {5, math.MaxInt64, math.MaxInt64}, {epochs.Put(7, 9, 3), 1, 8}, {api.MaxTick, 1, api.MaxTick + 1},
	} {
		if d := epochs.Dies(c.w, c.exp); d != c.d {
			t.Errorf("%v: %d", c, d)
		}
	}
	for _, c := range []struct {
		dies, gen int
		w         uint64
		alive     bool
	}{
		{9, 0, 8, true}, {9, 0, 9, false}, {9, 0, epochs.Put(8, 0, 1), false}, {-1, 2, epochs.Put(api.MaxTick, 0, 2), true}, {-1, 2, epochs.Put(0, 0, 3), false}, {-1, 3, epochs.Put(0, 0, 2), false}, {0, 0, 0, false}, {-2, 0, 0, false}, {1, 0, 0, true},
	} {
		if epochs.Alive(api.Item{Dies: c.dies, Gen: c.gen}, c.w) != c.alive {
			t.Error(c)
		}
	}
}

func TestP7_4(t *testing.T) {
	x := uint64(3)
	for i := range 20000 {
		x = x*6364136223846793005 + 1442695040888963407
		w := x
		if i%2 == 0 {
			w = epochs.Put(int(x>>60), int(x>>55&15), int(x>>50&3))
		}
		if i%5 == 0 {
			w |= 0xfff0f0
		}
		if epochs.Put(epochs.Now(w), epochs.At(w), epochs.Gen(w)) != w {
			t.Fatalf("%x: not its numbers", w)
		}
		for _, exp := range []int64{0, -1, 1, 5, api.Month, api.Month + 1, int64(x >> 41)} {
			item := api.Item{Gen: epochs.Gen(w), Dies: epochs.Dies(w, exp)}
			want := !(exp < 0 || exp > api.Month && exp <= int64(epochs.Now(w)))
			if epochs.Alive(item, w) != want {
				t.Fatalf("%x %d", w, exp)
			}
			if f, is := epochs.Flush(w, 0); is && epochs.Alive(item, f) {
				t.Fatalf("%x: alive behind a flush", w)
			}
			f, is := epochs.Flush(w, 3)
			for k := range 3 {
				if want && exp == 0 && is && epochs.Now(w)+3 <= api.MaxTick && !epochs.Alive(item, f) {
					t.Fatalf("%x: dead %d ticks behind", w, k)
				}
				f = epochs.Tick(f)
			}
			if is && epochs.Alive(item, f) {
				t.Fatalf("%x: alive behind a flush with a delay", w)
			}
		}
		old := api.Item{Gen: epochs.Gen(w) - int(x>>61&1), Dies: int(x >> 40 & 31)}
		if f, is := epochs.Flush(w, int64(x>>59)); !epochs.Alive(old, w) && (epochs.Alive(old, epochs.Tick(w)) || is && epochs.Alive(old, f)) {
			t.Fatalf("%x: %v comes to life", w, old)
		}
	}
}
