package moves_test

import (
	"strconv"
	"testing"

	"nestbox/api"
	"nestbox/fnvs"
	"nestbox/moves"
	"nestbox/places"
	"nestbox/rigs"
	"nestbox/tagwords"
	"nestbox/worlds"
)

func growing(bits int) *worlds.World {
	w := rigs.World(bits)
	w.Cells.Store(api.CellTable, places.Word(bits, bits+1))
	return w
}

func n(v uint64) string {
	return strconv.FormatUint(v, 10)
}

func TestP20Example(t *testing.T) {
	w := growing(1)
	for range 4 {
		w.Items.Add(api.Item{Key: "x"})
	}
	s := rigs.Spot(1, 1, 0)
	rigs.Seat(w, s, "a")
	h := fnvs.Hash("a")
	tag := uint64(fnvs.Tag(h))
	to := strconv.Itoa(fnvs.Bucket(h, 2))
	stripe := "v" + strconv.Itoa(fnvs.Stripe(api.Place{Bits: 2, Bucket: fnvs.Bucket(h, 2)}))
	x := moves.NewMove(0x0201, 1)
	if x.Step(nil) || x.Over() || x.Lost() != 0 {
		t.Error("at first")
	}
	if d := rigs.Differ(rigs.Run(w, x, 40), "load t1.1 "+n(tag), "load i1.1.0 5", "load t2."+to+" 0", "add v32 0 1", "add "+stripe+" 0 1", "load t1.1 "+n(tag), "store t1.1 "+n(tag)+" 0", "store i1.1.0 5 0",
		"store i2."+to+".0 0 5", "load t2."+to+" 0", "store t2."+to+" 0 "+n(tag), "add v32 1 2", "add "+stripe+" 1 2", "load t1.1 0", "load t1.1 0", "load t1.1 0"); d != "" || x.Lost() != 0 || !rigs.Idle(w, x) {
		t.Error(d)
	}
	if d := rigs.Differ(rigs.Run(w, moves.NewMove(0x0201, 0), 40), "load t1.0 0", "load t1.0 0", "load t1.0 0", "load t1.0 0"); d != "" || w.Notes.Count() != 0 {
		t.Error(d)
	}
}

func TestP20_1Lost(t *testing.T) {
	w := growing(1)
	w.Config.Way = 2
	w.Holder = 6
	w.Cells.Store(api.CellCount, 1)
	key := rigs.Key(rigs.Homed(2, 1, 2))
	for _, b := range []int{1, 2} {
		for slot := range 4 {
			rigs.Set(w, rigs.Spot(2, b, slot), 9, 50)
		}
	}
	s := rigs.Spot(1, 0, 3)
	rigs.Seat(w, s, key)
	tags := n(uint64(fnvs.Tag(fnvs.Hash(key))) << 24)
	from := w.Steps()
	x := moves.NewMove(0x0201, 0)
	rigs.Run(w, x, 4)
	if x.Lost() != 0 {
		t.Error("lost too early")
	}
	told := rigs.Run(w, x, 40)
	if d := rigs.Differ(told, "load i1.0.3 1", "load t2.1 151587081", "load t2.2 151587081", "load t2.1 151587081", "load t2.2 151587081", "add v31 0 1", "load t1.0 "+tags, "store t1.0 "+tags+" 0", "store i1.0.3 1 0", "add v31 1 2", "add count 2 1"); d != "" || x.Lost() != 1 || !rigs.Idle(w, x) {
		t.Error(d, x.Lost())
	}
	step := strconv.Itoa
	if d := rigs.Differ(rigs.Notes(w, 0), "full "+step(from+9)+" 6 0 0 0 0 0", "evict "+step(from+12)+" 6 1 1 0 3 0", "fail "+step(from+15)+" 6 1 1 0 3 0"); d != "" {
		t.Error(d)
	}
}

func TestP20_1NoRecord(t *testing.T) {
	w := growing(1)
	rigs.Set(w, rigs.Spot(1, 0, 0), 9, 77)
	rigs.Set(w, rigs.Spot(1, 0, 1), 8, 0)
	to := fnvs.Bucket(fnvs.Hash(""), 2)
	name := "2." + strconv.Itoa(to)
	stripe := "v" + strconv.Itoa(fnvs.Stripe(api.Place{Bits: 2, Bucket: to}))
	x := moves.NewMove(0x0201, 0)
	if d := rigs.Differ(rigs.Run(w, x, 60), "load t1.0 2057", "load i1.0.0 77", "load t"+name+" 0", "add v31 0 1", "add "+stripe+" 0 1", "load t1.0 2057", "store t1.0 2057 2048", "store i1.0.0 77 0",
		"store i"+name+".0 0 77", "load t"+name+" 0", "store t"+name+" 0 9", "add v31 1 2", "add "+stripe+" 1 2",
		// no number: nothing is put
		"load t1.0 2048", "load i1.0.1 0", "load t"+name+" 9", "add v31 2 3", "add "+stripe+" 2 3", "load t1.0 2048", "store t1.0 2048 0", "store i1.0.1 0 0", "add v31 3 4", "add "+stripe+" 3 4",
		"load t1.0 0", "load t1.0 0"); d != "" || !rigs.Idle(w, x) {
		t.Error(d)
	}
}

func TestP20Wrong(t *testing.T) {
	w := growing(1)
	var none *moves.Move
	for i, x := range []*moves.Move{none, {}, moves.NewMove(1, 0), moves.NewMove(0x0201, 2), moves.NewMove(0x0201, -1), moves.NewMove(12, 0), moves.NewMove(0, 0), moves.NewMove(0x0301, 0)} {
		if !rigs.Idle(w, x) || x.Lost() != 0 {
			t.Error(i)
		}
	}
	var own worlds.World
	x := moves.NewMove(0x0201, 1)
	for range 4 {
		x.Step(&own)
	}
	if !x.Over() {
		t.Error("a world of no cells")
	}
}

// All buckets are moved, out of a table that is nearly full, and into one that is half full or more.
func TestP20_3(t *testing.T) {
	lost, kept := 0, 0
	for seed := range uint64(150) {
		const bits = 2
		w := growing(bits)
		w.Config.Way = 2 + int(seed%4)
		x := seed + 3
		keys := map[int]string{}
		seat := func(table int, most uint64) {
			for i := range 4 << table * 3 {
				x = x*6364136223846793005 + 1442695040888963407
				key := "s" + strconv.Itoa(table) + "." + strconv.Itoa(i)
				h := fnvs.Hash(key)
				if x>>40%10 > most {
					continue
				}
				for _, p := range places.Places(h, uint64(table)) {
					if slot := tagwords.Free(w.Cells.Peek(places.Tags(p))); slot >= 0 {
						keys[rigs.Seat(w, api.Spot{Place: p, Slot: slot}, key)] = key
						break
					}
				}
			}
		}
		seat(bits, 7)
		seat(bits+1, seed%10)
		count := w.Cells.Peek(api.CellCount)
		moved := 0
		for b := range fnvs.Size(bits) {
			others := oldWords(w, bits, b)
			m := moves.NewMove(places.Word(bits, bits+1), b)
			rigs.Run(w, m, 9999)
			moved += m.Lost()
			if w.Cells.Peek(places.Tags(api.Place{Bits: bits, Bucket: b})) != 0 || oldWords(w, bits, b) != others || !rigs.Even(w) {
				t.Fatal(seed, "bucket", b)
			}
		}
		for ref := range keys {
			if _, is := w.Notes.Dropped(ref); is {
				delete(keys, ref)
				lost++
			}
		}
		if int(count-w.Cells.Peek(api.CellCount)) != moved || int(w.Cells.Peek(api.CellCount)) != len(keys) {
			t.Fatal(seed, moved, len(keys))
		}
		for i := range 4 << (bits + 1) {
			s := places.At(uint64(bits+1), i)
			ref := int(w.Cells.Peek(places.Item(s)))
			if ref == 0 {
				continue
			}
			h := fnvs.Hash(keys[ref])
			p := places.Places(h, uint64(bits+1))
			if keys[ref] == "" || s.Place != p[0] && s.Place != p[len(p)-1] || tagwords.Tag(w.Cells.Peek(places.Tags(s.Place)), s.Slot) != fnvs.Tag(h) {
				t.Fatal(seed, s, ref)
			}
			delete(keys, ref)
			kept++
		}
		if len(keys) > 0 {
			t.Fatal(seed, "gone", keys)
		}
	}
	if lost < 20 || kept < 1000 {
		t.Error(lost, kept)
	}
}

// oldWords of the old table's other buckets, as one text.
func oldWords(w *worlds.World, bits, but int) string {
	text := ""
	for b := range fnvs.Size(bits) {
		if b == but {
			continue
		}
		at := places.Tags(api.Place{Bits: bits, Bucket: b})
		for i := range api.Addr(8) {
			text += n(w.Cells.Peek(at+i)) + " "
		}
	}
	return text
}
