package finds_test

import (
	"slices"
	"strconv"
	"testing"

	"nestbox/api"
	"nestbox/finds"
	"nestbox/fnvs"
	"nestbox/places"
	"nestbox/rigs"
	"nestbox/worlds"
)

func got(x *finds.Find, s api.Spot, ref int, word uint64) bool {
	spot, r := x.Got()
	return spot == s && r == ref && x.Word() == word
}

func TestP15Example(t *testing.T) {
	w := rigs.World(2)
	key := rigs.Key(rigs.Homed(2, 1, 2))
	x := finds.NewFind(key)
	if x.Step(nil) || !got(x, api.Spot{}, 0, 0) {
		t.Error("a step in no world")
	}
	if d := rigs.Differ(rigs.Run(w, x, 20), "load table 2", "load t2.1 0", "load t2.2 0"); d != "" || !got(x, api.Spot{}, 0, 2) || !rigs.Idle(w, x) {
		t.Error(d)
	}
	for range 4 {
		w.Items.Add(api.Item{Key: "other"})
	}
	s := rigs.Spot(2, 2, 3)
	if ref := rigs.Seat(w, s, key); ref != 5 {
		t.Fatal(ref)
	}
	x = finds.NewFind(key)
	for range 3 {
		if x.Step(w) || !got(x, api.Spot{}, 0, 0) {
			t.Error("over too early")
		}
	}
	if !x.Step(w) || !got(x, s, 5, 2) || rigs.Tell(w.Cells.Last()) != "load i2.2.3 5" {
		t.Error("not found")
	}
}

func TestP15_1(t *testing.T) {
	w := rigs.World(2)
	key := rigs.Key(rigs.Homed(2, 1, 2))
	tag := fnvs.Tag(fnvs.Hash(key))
	w.Cells.Store(api.CellTable, 0x0302)
	other, _ := w.Items.Add(api.Item{Key: "other"})
	rigs.Set(w, rigs.Spot(2, 1, 0), tag, other)
	rigs.Set(w, rigs.Spot(2, 1, 2), tag, 50)
	rigs.Set(w, rigs.Spot(2, 1, 3), tag, 0)
	rigs.Set(w, rigs.Spot(2, 2, 1), tag%255+1, 2)
	b := fnvs.Bucket(fnvs.Hash(key), 3)
	s := rigs.Spot(3, b, 1)
	rigs.Seat(w, s, key)
	rigs.Seat(w, rigs.Spot(3, b, 2), key)
	tags := func(bits, bucket int) string {
		a := places.Tags(api.Place{Bits: bits, Bucket: bucket})
		return "load " + rigs.Name(a) + " " + strconv.FormatUint(w.Cells.Peek(a), 10)
	}
	x := finds.NewFind(key)
	if d := rigs.Differ(rigs.Run(w, x, 30), "load table 770", tags(2, 1), "load i2.1.0 1", "load i2.1.2 50", "load i2.1.3 0", tags(2, 2), tags(3, b), "load "+rigs.Name(places.Item(s))+" 2"); d != "" || !got(x, s, 2, 0x0302) {
		t.Error(d)
	}
	var none *finds.Find
	for _, x := range []*finds.Find{none, {}} {
		if !rigs.Idle(w, x) || !got(x, api.Spot{}, 0, 0) {
			t.Error("none is not over")
		}
	}
	var own worlds.World
	empty := finds.NewFind("")
	for range 3 {
		empty.Step(&own)
	}
	if !empty.Over() || !got(empty, api.Spot{}, 0, 0) {
		t.Error("a world of no cells")
	}
}

func TestP15_3(t *testing.T) {
	for i := range 300 {
		w := rigs.World(2)
		if i%2 == 1 {
			w.Cells.Store(api.CellTable, 0x0302)
		}
		word := w.Cells.Peek(api.CellTable)
		x := uint64(i)
		keys := []string{"k0", "k1", "k2", "k3", "k4"}
		for n := range places.Spots(word) {
			x = x*6364136223846793005 + 1442695040888963407
			if x>>40%3 == 0 {
				rigs.Seat(w, places.At(word, n), keys[x>>50%5])
			}
		}
		key := keys[i%5]
		var want api.Spot
		var ref int
	search:
		for _, p := range places.Places(fnvs.Hash(key), word) {
			for slot := range 4 {
				s := api.Spot{Place: p, Slot: slot}
				r := int(w.Cells.Peek(places.Item(s)))
				if item, is := w.Items.At(r); is && item.Key == key {
					want, ref = s, r
					break search
				}
			}
		}
		before := w.Cells.Words()
		f := finds.NewFind(key)
		steps := len(rigs.Run(w, f, 100))
		if !got(f, want, ref, word) || steps > 1+5*len(places.Places(fnvs.Hash(key), word)) || !slices.Equal(before, w.Cells.Words()) {
			t.Fatal(i, want, ref, steps)
		}
	}
}
