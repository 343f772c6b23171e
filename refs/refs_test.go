package refs_test

import (
	"math"
	"testing"

	"nestbox/api"
	"nestbox/places"
	"nestbox/refs"
	"nestbox/rigs"
	"nestbox/worlds"
)

func TestP22_1(t *testing.T) {
	for v, less := range map[uint64]uint64{0: 0, 1: 2, 2: 2, 3: 4, math.MaxUint64: 0, math.MaxUint64 - 1: math.MaxUint64 - 1, 1 << 63: 1 << 63} {
		if refs.Less(v) != less || refs.Marked(v) != (v&1 == 1) {
			t.Error(v, refs.Less(v))
		}
	}
}

func TestP22Example(t *testing.T) {
	w := rigs.World(2)
	x := refs.NewTouch(9)
	if x.Step(nil) || x.Over() || x.Done() {
		t.Error("at first")
	}
	if d := rigs.Differ(rigs.Run(w, x, 9), "load r9 0", "load sweep 0", "cas r9 0 1"); d != "" || !x.Done() || !rigs.Idle(w, x) {
		t.Error(d)
	}
	x = refs.NewTouch(9)
	if d := rigs.Differ(rigs.Run(w, x, 9), "load r9 1"); d != "" || x.Done() || !rigs.Idle(w, x) {
		t.Error(d)
	}
	w.Cells.Store(places.Ref(9), refs.Less(1))
	x = refs.NewTouch(9)
	if d := rigs.Differ(rigs.Run(w, x, 9), "load r9 2", "load sweep 0", "cas r9 2 3"); d != "" || !x.Done() {
		t.Error(d)
	}
	w.Cells.Store(places.Ref(9), 2)
	w.Cells.Store(api.CellSweep, 1)
	x = refs.NewTouch(9)
	if d := rigs.Differ(rigs.Run(w, x, 9), "load r9 2", "load sweep 1"); d != "" || x.Done() || !rigs.Idle(w, x) {
		t.Error(d)
	}
	w.Cells.Store(api.CellSweep, 1<<63)
	if x = refs.NewTouch(9); len(rigs.Run(w, x, 9)) != 2 || x.Done() {
		t.Error("another sweep")
	}
}

func TestP22_2And3(t *testing.T) {
	w := rigs.World(2)
	x := refs.NewTouch(3)
	rigs.Run(w, x, 2)
	w.Cells.Store(places.Ref(3), 4)
	if !x.Step(w) || x.Done() || w.Cells.Peek(places.Ref(3)) != 4 || rigs.Tell(w.Cells.Last()) != "cas r3 4 4" {
		t.Error("done, though it does not stand")
	}
	if d := rigs.Differ(rigs.Run(w, refs.NewTouch(1), 9), "load r1 0", "load sweep 0", "cas r1 0 1"); d != "" {
		t.Error(d)
	}
	var none *refs.Touch
	for i, x := range []*refs.Touch{none, {}, refs.NewTouch(0), refs.NewTouch(-1), refs.NewTouch(-1 << 63)} {
		if !rigs.Idle(w, x) || x.Done() {
			t.Error(i)
		}
	}
	var own worlds.World
	x = refs.NewTouch(1)
	for range 3 {
		x.Step(&own)
	}
	if !x.Over() || x.Done() {
		t.Error("a world of no cells")
	}
}

// Readers touch one item, in an order that a rule of numbers makes, while a hand goes by now and then.
func TestP22_4(t *testing.T) {
	done, refused := 0, 0
	for seed := range uint64(200) {
		w := rigs.World(2)
		a := places.Ref(5)
		x := seed
		var under [8]*refs.Touch
		var loaded [8]uint64
		per := map[uint64]int{}
		phase, cleared := 0, false
		for range 600 {
			x = x*6364136223846793005 + 1442695040888963407
			i := int(x >> 33 % 9)
			if i == 8 {
				switch phase {
				case 0:
					w.Cells.Store(api.CellSweep, 1)
				case 1:
					if v := w.Cells.Load(a); refs.Marked(v) {
						w.Cells.Store(a, refs.Less(v))
						cleared = true
					}
				case 2:
					w.Cells.Store(api.CellSweep, 0)
					cleared = false
				}
				phase = (phase + 1) % 3
				continue
			}
			if under[i].Over() {
				under[i] = refs.NewTouch(5)
				loaded[i] = w.Cells.Peek(a)
			}
			stands, is := w.Cells.Peek(a), w.Cells.Peek(api.CellSweep)
			over := under[i].Step(w)
			last := w.Cells.Last()
			if last.Kind != api.AcCAS {
				if under[i].Done() {
					t.Fatal(seed, "done without a CAS")
				}
				continue
			}
			if !over || under[i].Done() != (stands == loaded[i]) {
				t.Fatal(seed, "done", stands, loaded[i], is)
			}
			if !under[i].Done() {
				refused++
				continue
			}
			done++
			per[loaded[i]]++
			if per[loaded[i]] > 1 {
				t.Fatal(seed, "two are done that loaded one word")
			}
			if cleared {
				t.Fatal(seed, "the mark comes again while the hand goes")
			}
		}
	}
	if done < 50 || refused < 50 {
		t.Error(done, refused)
	}
}
