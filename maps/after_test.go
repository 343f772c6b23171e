package maps

import (
	"testing"

	"nestbox/api"
	"nestbox/epochs"
)

// What ticks come to at once is what they come to one behind the other, for any word.
func TestAfter(t *testing.T) {
	x := uint64(4)
	for i := range 20000 {
		x = x*6364136223846793005 + 1442695040888963407
		w := x
		switch i % 4 {
		case 0:
			w = epochs.Put(int(x>>60), int(x>>55&31), int(x>>50&3))
		case 1:
			w = epochs.Put(api.MaxTick-int(x>>61), api.MaxTick-int(x>>50&15), api.MaxGen-int(x>>45&1))
		}
		want := w
		for ticks := range 20 {
			if got := after(w, ticks); got != want {
				t.Fatalf("%x %d: %x, not %x", w, ticks, got, want)
			}
			want = epochs.Tick(want)
		}
		if after(w, -1) != w || after(w, -1<<62) != w {
			t.Fatal("ticks below 0")
		}
	}
}
