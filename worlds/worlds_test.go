package worlds_test

import (
	"slices"
	"testing"

	"nestbox/api"
	"nestbox/cells"
	"nestbox/epochs"
	"nestbox/items"
	"nestbox/notes"
	"nestbox/places"
	"nestbox/worlds"
)

var plain = worlds.Config{Bits: 2, Budget: 8, Tries: 3, Quantum: 1, Way: 16}

func TestP10_1(t *testing.T) {
	w, e := worlds.New(plain)
	if e != api.OK || w.Cells.Peek(api.CellTable) != 2 || w.Steps() != 0 || !w.Grows() || w.Full() || w.Config != plain {
		t.Error(e)
	}
	if w.Items.Count() != 0 || w.Notes.Count() != 0 || w.Tickets != [api.MaxThreads]uint64{} || w.Holder != -1 || len(w.Cells.Words()) != 1 {
		t.Error("not as at first")
	}
	for _, c := range []struct {
		change func(c *worlds.Config)
		may    bool
	}{
		{func(c *worlds.Config) {}, true},
		{func(c *worlds.Config) { c.Bits = 0 }, false}, {func(c *worlds.Config) { c.Bits = 1 }, true}, {func(c *worlds.Config) { c.Bits = 12 }, true}, {func(c *worlds.Config) { c.Bits = 13 }, false},
		{func(c *worlds.Config) { c.Budget = 0 }, false}, {func(c *worlds.Config) { c.Budget = 1 }, true}, {func(c *worlds.Config) { c.Budget = 65536 }, true}, {func(c *worlds.Config) { c.Budget = 65537 }, false},
		{func(c *worlds.Config) { c.Tries = -1 }, false}, {func(c *worlds.Config) { c.Tries = 0 }, true}, {func(c *worlds.Config) { c.Tries = 16 }, true}, {func(c *worlds.Config) { c.Tries = 17 }, false},
		{func(c *worlds.Config) { c.Quantum = 0 }, false}, {func(c *worlds.Config) { c.Quantum = 8 }, true}, {func(c *worlds.Config) { c.Quantum = 9 }, false},
		{func(c *worlds.Config) { c.Way = 1 }, false}, {func(c *worlds.Config) { c.Way = 2 }, true}, {func(c *worlds.Config) { c.Way = 256 }, true}, {func(c *worlds.Config) { c.Way = 257 }, false},
		{func(c *worlds.Config) { *c = worlds.Config{} }, false},
	} {
		x := plain
		c.change(&x)
		w, e := worlds.New(x)
		if worlds.May(x) != c.may || (e == api.OK) != c.may || (w != nil) != c.may || !c.may && e != api.ErrArg {
			t.Error(x, e)
		}
	}
}

func TestP10_2(t *testing.T) {
	w, _ := worlds.New(plain)
	w.Tick()
	if w.Steps() != 1 || w.Cells.Peek(api.CellEpoch) != 1 || w.Notes.Count() != 0 {
		t.Error(w.Steps(), w.Cells.Last())
	}
	if x := w.Cells.Last(); x != (api.Access{Kind: api.AcCAS, Addr: api.CellEpoch, Is: 1}) {
		t.Error(x)
	}
	w.Cells.Store(api.CellEpoch, epochs.Put(api.MaxTick, 0, 7))
	w.Tick()
	if w.Steps() != 3 || w.Cells.Peek(api.CellEpoch) != epochs.Put(api.MaxTick, 0, 7) {
		t.Error(w.Cells.Last())
	}
	w.Cells.Store(api.CellEpoch, epochs.Put(7, 8, 7))
	w.Tick()
	if w.Cells.Peek(api.CellEpoch) != epochs.Put(8, 0, 8) {
		t.Error(w.Cells.Last())
	}
}

func TestP10_3(t *testing.T) {
	w, _ := worlds.New(plain)
	s := api.Spot{Place: api.Place{Bits: 2, Bucket: 1}, Slot: 3}
	w.Cells.Load(7)
	w.Note(notes.NtEvict, 9, s, 4)
	w.Holder = 5
	w.Tick()
	w.Note(notes.NtHand, 0, api.Spot{}, -1)
	w.Note(notes.NtNone, 1, s, 1)
	w.Note(10, 1, s, 1)
	want := []notes.Note{{Step: 1, Thread: -1, Kind: notes.NtEvict, Ref: 9, Spot: s, Value: 4}, {Step: 2, Thread: 5, Kind: notes.NtHand, Value: -1}}
	if got := w.Notes.All(); !slices.Equal(got, want) {
		t.Error(got)
	}
}

func TestP10_4(t *testing.T) {
	w, _ := worlds.New(plain)
	for word, grows := range map[uint64]bool{2: true, 3: true, 4: false, 0x0302: false, 0x0402: true, 0: true, 12: false} {
		w.Cells.Store(api.CellTable, word)
		if w.Grows() != grows {
			t.Error(word)
		}
	}
	before := w.Steps()
	for n, full := range map[uint64]bool{0: false, 7: false, 8: true, 9: true, 1<<64 - 1: true} {
		w.Cells.Store(api.CellCount, n)
		if w.Full() != full {
			t.Error(n)
		}
	}
	if w.Steps() != before+5 {
		t.Error("a look is an access")
	}
}

func TestNoWorld(t *testing.T) {
	var w *worlds.World
	w.Tick()
	w.Note(notes.NtTick, 0, api.Spot{}, 0)
	if w.Steps() != 0 || w.Grows() || w.Full() {
		t.Error("no world has something")
	}
	var own worlds.World
	own.Tick()
	own.Note(notes.NtTick, 0, api.Spot{}, 0)
	if own.Steps() != 0 || own.Grows() || !own.Full() || own.Holder != 0 {
		t.Error("a world that no call made")
	}
	half := worlds.World{Cells: cells.New(), Items: items.New(), Config: plain}
	half.Tick()
	half.Note(notes.NtTick, 0, api.Spot{}, 0)
	if half.Steps() != 1 || !half.Grows() {
		t.Error("a world without notes")
	}
}

func TestP10_5(t *testing.T) {
	for bits := 1; bits <= 12; bits++ {
		for _, budget := range []int{1, 9, 500, 65536} {
			c := worlds.Config{Bits: bits, Budget: budget, Tries: 1, Quantum: 1, Way: 2}
			w, _ := worlds.New(c)
			other, _ := worlds.New(c)
			if !slices.Equal(w.Cells.Words(), other.Cells.Words()) || w.Cells == other.Cells || w.Items == other.Items || w.Notes == other.Notes {
				t.Error("two worlds of one config")
			}
			most := bits
			for w.Grows() {
				old, _ := places.As(w.Cells.Peek(api.CellTable))
				both := places.Spots(places.Word(old, old+1))
				if both > 8*max(budget, 4<<bits) {
					t.Error(bits, budget, old)
				}
				w.Cells.Store(api.CellTable, places.Word(old+1, 0))
				most = old + 1
			}
			if w.Steps() != most-bits {
				t.Error("steps", w.Steps())
			}
		}
	}
}
