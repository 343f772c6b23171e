package turns_test

import (
	"strconv"
	"testing"

	"nestbox/api"
	"nestbox/fnvs"
	"nestbox/places"
	"nestbox/rigs"
	"nestbox/tagwords"
	"nestbox/turns"
	"nestbox/worlds"
)

func TestP21Example(t *testing.T) {
	w := rigs.World(1)
	x := turns.NewTurn()
	if x.Step(nil) || x.Over() || x.Moved() != 0 {
		t.Error("at first")
	}
	if d := rigs.Differ(rigs.Run(w, x, 9), "load table 1"); d != "" || !rigs.Idle(w, x) || x.Moved() != 0 {
		t.Error(d)
	}
	w.Cells.Store(api.CellTable, 0x0201)
	for b := range 2 {
		x, c := turns.NewTurn(), strconv.Itoa(b)
		tags := "load t1." + c + " 0"
		if d := rigs.Differ(rigs.Run(w, x, 30), "load table 513", "load cursor "+c, tags, tags, tags, tags, "store cursor "+c+" "+strconv.Itoa(b+1)); d != "" || x.Moved() != 1 || !rigs.Idle(w, x) {
			t.Error(d)
		}
	}
	x = turns.NewTurn()
	if d := rigs.Differ(rigs.Run(w, x, 30), "load table 513", "load cursor 2", "store table 513 2"); d != "" || x.Moved() != 0 {
		t.Error(d)
	}
	if d := rigs.Differ(rigs.Notes(w, 0), "swap 19 -1 0 0 0 0 2"); d != "" {
		t.Error(d)
	}
}

func TestP21_1Quantum(t *testing.T) {
	w := rigs.World(1)
	w.Config.Quantum = 8
	w.Cells.Store(api.CellTable, 0x0201)
	x := turns.NewTurn()
	told := rigs.Run(w, x, 60)
	zero, one := "load t1.0 0", "load t1.1 0"
	if d := rigs.Differ(told, "load table 513", "load cursor 0", zero, zero, zero, zero, "store cursor 0 1", "load table 513", "load cursor 1", one, one, one, one, "store cursor 1 2", "load table 513", "load cursor 2", "store table 513 2"); d != "" || x.Moved() != 2 || !rigs.Idle(w, x) {
		t.Error(d, x.Moved())
	}
	for _, c := range []struct {
		quantum int
		cursor  uint64
		moved   int
		steps   int
	}{{2, 0, 2, 14}, {1, 1, 1, 7}, {3, 0, 2, 17}, {0, 0, 1, 7}, {-5, 0, 1, 7}, {4, 1 << 63, 0, 3}, {4, 3, 0, 3}} {
		w := rigs.World(1)
		w.Config.Quantum = c.quantum
		w.Cells.Store(api.CellTable, 0x0201)
		w.Cells.Store(api.CellCursor, c.cursor)
		x := turns.NewTurn()
		if n := len(rigs.Run(w, x, 60)); n != c.steps || x.Moved() != c.moved || !x.Over() {
			t.Error(c, n, x.Moved())
		}
	}
}

func TestP21Wrong(t *testing.T) {
	w := rigs.World(1)
	var none *turns.Turn
	for i, x := range []*turns.Turn{none, {}} {
		if !rigs.Idle(w, x) || x.Moved() != 0 {
			t.Error(i)
		}
	}
	var own worlds.World
	if x := turns.NewTurn(); !x.Step(&own) {
		t.Error("a world of no cells")
	}
}

func TestP21_3(t *testing.T) {
	for seed := range uint64(120) {
		const bits = 2
		w := rigs.World(bits)
		w.Config.Quantum = 1 + int(seed%5)
		w.Config.Way = 2 + int(seed%9)
		keys := map[int]string{}
		x := seed
		for i := range 40 {
			key := "s" + strconv.Itoa(i)
			x = x*6364136223846793005 + 1442695040888963407
			both := places.Places(fnvs.Hash(key), bits)
			p := both[int(x>>50)%len(both)]
			if slot := tagwords.Free(w.Cells.Peek(places.Tags(p))); slot >= 0 && x>>40%10 < seed%12 {
				keys[rigs.Seat(w, api.Spot{Place: p, Slot: slot}, key)] = key
			}
		}
		w.Cells.Store(api.CellTable, 0x0302)
		size := fnvs.Size(bits)
		most := (size+w.Config.Quantum-1)/w.Config.Quantum + 1
		through := 0
		for range most {
			turn := turns.NewTurn()
			rigs.Run(w, turn, 9999)
			if turn.Moved() != min(w.Config.Quantum, size-through) {
				t.Fatal(seed, turn.Moved(), through)
			}
			through += turn.Moved()
			if w.Cells.Peek(api.CellCursor) != uint64(through) {
				t.Fatal(seed, "cursor")
			}
			for b := range through {
				if w.Cells.Peek(places.Tags(api.Place{Bits: bits, Bucket: b})) != 0 {
					t.Fatal(seed, "not empty", b)
				}
			}
		}
		if w.Cells.Peek(api.CellTable) != 3 || through != size {
			t.Fatal(seed, "not alone")
		}
		for i := range places.Spots(3) {
			s := places.At(3, i)
			ref := int(w.Cells.Peek(places.Item(s)))
			if ref == 0 {
				continue
			}
			if _, dropped := w.Notes.Dropped(ref); dropped || keys[ref] == "" {
				t.Fatal(seed, "twice, or dropped", ref)
			}
			delete(keys, ref)
		}
		for ref := range keys {
			if _, dropped := w.Notes.Dropped(ref); !dropped {
				t.Fatal(seed, "gone", ref)
			}
		}
		before := rigs.Standing(w)
		if n := len(rigs.Run(w, turns.NewTurn(), 99)); n != 1 || rigs.Differ(before, rigs.Standing(w)...) != "" {
			t.Fatal(seed, n)
		}
	}
}
