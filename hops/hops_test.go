package hops_test

import (
	"slices"
	"testing"

	"nestbox/api"
	"nestbox/fnvs"
	"nestbox/hops"
	"nestbox/paths"
	"nestbox/places"
	"nestbox/rigs"
	"nestbox/tagwords"
	"nestbox/worlds"
)

func TestP17Example(t *testing.T) {
	w := rigs.World(2)
	rigs.Set(w, rigs.Spot(2, 1, 3), 9, 5)
	way := []api.Spot{rigs.Spot(2, 1, 3), rigs.Spot(2, 0, 0)}
	x := hops.NewHops(way)
	way[0] = rigs.Spot(2, 3, 0)
	if x.Step(nil) || x.Over() || x.Left() != 1 {
		t.Error("at first")
	}
	if d := rigs.Differ(rigs.Run(w, x, 30), "load t2.1 150994944", "load i2.1.3 5", "add v63 0 1", "add v62 0 1", "load t2.1 150994944", "store t2.1 150994944 0", "store i2.1.3 5 0",
		"store i2.0.0 0 5", "load t2.0 0", "store t2.0 0 9", "add v63 1 2", "add v62 1 2"); d != "" || x.Left() != 0 || !rigs.Idle(w, x) {
		t.Error(d)
	}
	if d := rigs.Differ(rigs.Standing(w), "table 2", "t2.0 9", "i2.0.0 5"); d != "" {
		t.Error(d)
	}
}

func TestP17_2(t *testing.T) {
	w := rigs.World(2)
	way := []api.Spot{rigs.Spot(2, 0, 0), rigs.Spot(2, 1, 0), rigs.Spot(2, 2, 0), rigs.Spot(2, 3, 0)}
	for i := range 3 {
		rigs.Set(w, way[i], 9, i+1)
	}
	x := hops.NewHops(way)
	for k := 3; k > 0; k-- {
		for i := range 12 {
			if x.Left() != k || x.Over() {
				t.Error(k, i, x.Left())
			}
			x.Step(w)
			if i == 1 && rigs.Tell(w.Cells.Last()) != "load "+rigs.Name(places.Item(way[k-1]))+" "+string(rune('0'+k)) {
				t.Error(rigs.Tell(w.Cells.Last()))
			}
		}
	}
	if x.Left() != 0 || !x.Over() || w.Cells.Peek(places.Item(way[0])) != 0 || w.Cells.Peek(places.Item(way[3])) != 3 {
		t.Error(rigs.Standing(w))
	}
}

func TestP17_1Wrong(t *testing.T) {
	w := rigs.World(2)
	var none *hops.Hops
	for i, x := range []*hops.Hops{none, {}, hops.NewHops(nil), hops.NewHops([]api.Spot{rigs.Spot(2, 1, 1)})} {
		if !rigs.Idle(w, x) || x.Left() != 0 {
			t.Error(i)
		}
	}
	good := rigs.Spot(2, 1, 1)
	rigs.Set(w, good, 9, 5)
	for i, c := range []struct {
		way  []api.Spot
		want []string
	}{
		// no spots at all: two loads at the address 0
		{[]api.Spot{{}, {}}, []string{"load next 0", "load next 0"}},
		{[]api.Spot{{}, {}, {}}, []string{"load next 0", "load next 0", "load next 0", "load next 0"}},
		// no such slot: the bucket's version is marked all the same
		{[]api.Spot{rigs.Spot(2, 1, 4), {}}, []string{"load next 0", "load next 0", "add v63 0 1", "add v63 1 2"}},
		// from no spot to one: no tag, no number
		{[]api.Spot{{}, good}, []string{"load next 0", "load next 0", "add v63 2 3", "add v63 3 4"}},
		// from a spot to none: it is taken out, and put nowhere
		{[]api.Spot{good, {}}, []string{"load t2.1 2304", "load i2.1.1 5", "add v63 4 5", "load t2.1 2304", "store t2.1 2304 0", "store i2.1.1 5 0", "add v63 5 6"}},
		// a slot that is free: nothing is put
		{[]api.Spot{good, rigs.Spot(2, 1, 2)}, []string{"load t2.1 0", "load i2.1.1 0", "add v63 6 7", "load t2.1 0", "store t2.1 0 0", "store i2.1.1 0 0", "add v63 7 8"}},
	} {
		x := hops.NewHops(c.way)
		if d := rigs.Differ(rigs.Run(w, x, 30), c.want...); d != "" || !rigs.Idle(w, x) || x.Left() != 0 {
			t.Error(i, d)
		}
	}
	var own worlds.World
	x := hops.NewHops([]api.Spot{good, good})
	for range 100 {
		x.Step(&own)
	}
	if !x.Over() {
		t.Error("a world of no cells")
	}
}

// spots in which an item is, as looked at: by its tag and its word.
func spots(w *worlds.World, bits, ref, tag int) []api.Spot {
	var in []api.Spot
	for n := range 4 << bits {
		s := places.At(uint64(bits), n)
		if w.Cells.Peek(places.Item(s)) == uint64(ref) && tagwords.Tag(w.Cells.Peek(places.Tags(s.Place)), s.Slot) == tag {
			in = append(in, s)
		}
	}
	return in
}

func TestP17_3(t *testing.T) {
	const bits = 3
	long := 0
	for seed := range uint64(200) {
		w := rigs.World(bits)
		x := seed + 5
		tags := map[int]int{}
		for n := range 32 {
			x = x*6364136223846793005 + 1442695040888963407
			if n/4 == int(seed%8) && n%4 == 3 {
				continue
			}
			tags[n+1] = int(x>>40%255) + 1
			rigs.Set(w, places.At(bits, n), tags[n+1], n+1)
		}
		find := paths.NewWay(bits, int(x>>20%8), int(x>>50%8), 99)
		rigs.Run(w, find, 99)
		way := find.Got()
		if len(way) > 2 {
			long++
		}
		for h := hops.NewHops(way); !h.Over(); h.Step(w) {
			for ref, tag := range tags {
				if in := spots(w, bits, ref, tag); len(in) != 1 && rigs.Even(w) {
					t.Fatal(seed, "in no slot", ref, in)
				}
			}
		}
		for ref, tag := range tags {
			in := spots(w, bits, ref, tag)
			was := places.At(bits, ref-1)
			if len(in) != 1 || in[0].Bucket != was.Bucket && in[0].Bucket != fnvs.Other(was.Bucket, tag, bits) {
				t.Fatal(seed, ref, in)
			}
			if !slices.Contains(way, was) && in[0] != was {
				t.Fatal("another one moved", was, in[0])
			}
		}
		if len(way) > 0 && w.Cells.Peek(places.Item(way[0])) != 0 || !rigs.Even(w) || w.Notes.Count() != 0 {
			t.Fatal(seed, "not free")
		}
	}
	if long < 10 {
		t.Error(long)
	}
}
