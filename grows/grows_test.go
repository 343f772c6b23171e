package grows_test

import (
	"slices"
	"testing"

	"nestbox/api"
	"nestbox/fnvs"
	"nestbox/grows"
	"nestbox/places"
	"nestbox/rigs"
	"nestbox/worlds"
)

func TestP19_1(t *testing.T) {
	w := rigs.World(2)
	w.Holder = 4
	w.Cells.Store(api.CellCursor, 9)
	x := grows.NewGrow(2)
	if x.Step(nil) || x.Over() {
		t.Error("a step in no world")
	}
	if d := rigs.Differ(rigs.Run(w, x, 9), "store cursor 9 0", "store table 2 770"); d != "" || !rigs.Idle(w, x) {
		t.Error(d)
	}
	if d := rigs.Differ(rigs.Notes(w, 0), "grow 3 4 0 0 0 0 3"); d != "" {
		t.Error(d)
	}
	// the word that was read counts, not the one that stands; of it just the bits that say something
	if d := rigs.Differ(rigs.Run(w, grows.NewGrow(0x0903_0005_0507), 9), "store cursor 0 0", "store table 770 2055"); d != "" {
		t.Error(d)
	}
	var none *grows.Grow
	for i, x := range []*grows.Grow{none, {}, grows.NewGrow(770), grows.NewGrow(12), grows.NewGrow(0x0d0c), grows.NewGrow(0x0c0b)} {
		if !rigs.Idle(w, x) {
			t.Error(i)
		}
	}
	if x := grows.NewGrow(0); len(rigs.Run(w, x, 9)) != 2 || w.Cells.Peek(api.CellTable) != 0x0201 || w.Notes.Count() != 3 {
		t.Error("of a word of nothing")
	}
}

func TestP19_2(t *testing.T) {
	w := rigs.World(2)
	w.Cells.Store(api.CellTable, 770)
	x := grows.NewSwap(770)
	if x.Step(nil) || x.Over() {
		t.Error("a step in no world")
	}
	if d := rigs.Differ(rigs.Run(w, x, 9), "store table 770 3"); d != "" || !rigs.Idle(w, x) {
		t.Error(d)
	}
	if d := rigs.Differ(rigs.Notes(w, 0), "swap 2 -1 0 0 0 0 3"); d != "" {
		t.Error(d)
	}
	var none *grows.Swap
	for i, x := range []*grows.Swap{none, {}, grows.NewSwap(3), grows.NewSwap(0), grows.NewSwap(0x0403 + 0x100), grows.NewSwap(0x0d0c)} {
		if !rigs.Idle(w, x) {
			t.Error(i)
		}
	}
	var own worlds.World
	if g := grows.NewGrow(0); g.Step(&own) || !g.Step(&own) || !grows.NewSwap(0x0201).Step(&own) {
		t.Error("a world of no cells")
	}
}

func TestP19_3(t *testing.T) {
	for first := 1; first <= 12; first++ {
		w := rigs.World(first)
		seen := map[uint64]bool{}
		last := 2 * first
		for {
			word := w.Cells.Peek(api.CellTable)
			if seen[word] {
				t.Fatal("a word comes again", word)
			}
			seen[word] = true
			w.Cells.Store(api.CellCursor, 5)
			g := grows.NewGrow(word)
			if g.Over() {
				break
			}
			rigs.Run(w, g, 9)
			both := w.Cells.Peek(api.CellTable)
			old, now := places.As(both)
			if was, _ := places.As(word); old != was || now != was+1 || w.Cells.Peek(api.CellCursor) != 0 || old+now <= last || seen[both] {
				t.Fatal(first, both)
			}
			last = old + now
			seen[both] = true
			rigs.Run(w, grows.NewSwap(both), 9)
			alone := w.Cells.Peek(api.CellTable)
			if a, b := places.As(alone); a != now || b != 0 {
				t.Fatal(first, alone)
			}
			for _, key := range []string{"", "a", "foo", "k17"} {
				h := fnvs.Hash(key)
				all := places.Places(h, both)
				for _, p := range append(places.Places(h, word), places.Places(h, alone)...) {
					if !slices.Contains(all, p) {
						t.Fatal(key, p)
					}
				}
			}
		}
		if old, _ := places.As(w.Cells.Peek(api.CellTable)); old != 12 {
			t.Fatal("ends at", old)
		}
	}
}
