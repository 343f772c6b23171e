package paths_test

import (
	"slices"
	"testing"

	"nestbox/api"
	"nestbox/fnvs"
	"nestbox/paths"
	"nestbox/places"
	"nestbox/rigs"
	"nestbox/tagwords"
	"nestbox/worlds"
)

func fill(w *worlds.World, bits, bucket int, tags ...int) {
	for slot, tag := range tags {
		rigs.Set(w, rigs.Spot(bits, bucket, slot), tag, 1)
	}
}

func TestP16Example(t *testing.T) {
	w := rigs.World(2)
	x := paths.NewWay(2, 1, 2, 16)
	if x.Over() || x.Step(nil) || x.Nodes() != 2 || x.Got() != nil {
		t.Error("at first")
	}
	if d := rigs.Differ(rigs.Run(w, x, 9), "load t2.1 0"); d != "" || !slices.Equal(x.Got(), []api.Spot{rigs.Spot(2, 1, 0)}) || x.Nodes() != 2 || !rigs.Idle(w, x) {
		t.Error(d, x.Got(), x.Nodes())
	}
	fill(w, 2, 1, 9, 9, 9, 9)
	fill(w, 2, 2, 9, 9, 9, 9)
	x = paths.NewWay(2, 1, 2, 16)
	if d := rigs.Differ(rigs.Run(w, x, 9), "load t2.1 151587081", "load t2.2 151587081", "load t2.0 0"); d != "" || !slices.Equal(x.Got(), []api.Spot{rigs.Spot(2, 1, 0), rigs.Spot(2, 0, 0)}) || x.Nodes() != 4 {
		t.Error(d, x.Got(), x.Nodes())
	}
	if way := x.Got(); cap(way) != len(way) {
		t.Error("room behind")
	}
	x.Got()[0].Slot = 3
	if x.Got()[0].Slot != 0 {
		t.Error("shared memory")
	}
	for most, nodes := range map[int]int{2: 2, 1: 2, 0: 2, -5: 2, 3: 3} {
		x = paths.NewWay(2, 1, 2, most)
		told := rigs.Run(w, x, 9)
		if nodes == 2 && (len(told) != 2 || x.Got() != nil) || nodes == 3 && len(x.Got()) != 2 || x.Nodes() != nodes || !rigs.Idle(w, x) {
			t.Error(most, told, x.Nodes())
		}
	}
	x = paths.NewWay(2, 1, 1, 16)
	if d := rigs.Differ(rigs.Run(w, x, 9), "load t2.1 151587081", "load t2.0 0"); d != "" || x.Nodes() != 2 {
		t.Error(d, x.Nodes())
	}
}

func TestP16_1Wrong(t *testing.T) {
	w := rigs.World(2)
	var none *paths.Way
	for i, x := range []*paths.Way{none, {}, paths.NewWay(2, 4, 1, 9), paths.NewWay(2, 1, 4, 9), paths.NewWay(2, -1, 1, 9), paths.NewWay(2, 1, -1, 9), paths.NewWay(0, 0, 0, 9), paths.NewWay(13, 0, 0, 9), paths.NewWay(-1, 0, 1, 9)} {
		if !rigs.Idle(w, x) || x.Got() != nil || x.Nodes() != 0 {
			t.Error(i, x.Nodes())
		}
	}
	var own worlds.World
	x := paths.NewWay(12, 4095, 0, 1<<62)
	if !x.Step(&own) || len(x.Got()) != 1 {
		t.Error("a world of no cells")
	}
}

// far: how many hops the nearest free slot is away; -1: none can be reached.
func far(w *worlds.World, bits int, firsts ...int) int {
	away := map[int]int{}
	for _, b := range firsts {
		away[b] = 0
	}
	line := firsts
	for len(line) > 0 {
		b := line[0]
		line = line[1:]
		tags := w.Cells.Peek(places.Tags(api.Place{Bits: bits, Bucket: b}))
		if tagwords.Free(tags) >= 0 {
			return away[b]
		}
		for slot := range 4 {
			o := fnvs.Other(b, tagwords.Tag(tags, slot), bits)
			if _, is := away[o]; !is {
				away[o] = away[b] + 1
				line = append(line, o)
			}
		}
	}
	return -1
}

func TestP16_3(t *testing.T) {
	lengths := map[int]int{}
	for seed := range uint64(400) {
		const bits = 5
		w := rigs.World(bits)
		x := seed + 99
		for bucket := range fnvs.Size(bits) {
			for slot := range 4 {
				x = x*6364136223846793005 + 1442695040888963407
				tag := int(x>>40%255) + 1
				if slot == 2 && x>>33%uint64(2+seed%40) == 0 {
					continue
				}
				rigs.Set(w, rigs.Spot(bits, bucket, slot), tag, 1)
			}
		}
		a, b := int(x>>20%32), int(x>>50%32)
		before, steps := w.Cells.Words(), w.Steps()
		way := paths.NewWay(bits, a, b, 32+int(seed%3))
		rigs.Run(w, way, 1000)
		spots := way.Got()
		lengths[len(spots)]++
		if want := far(w, bits, a, b); len(spots)-1 != want && !(want < 0 && len(spots) == 0) {
			t.Fatal(seed, spots, want)
		}
		if !slices.Equal(before, w.Cells.Words()) || w.Steps()-steps > 32 || way.Nodes() > 32 {
			t.Fatal("changes, or too many steps")
		}
		seen := map[int]int{}
		for i, s := range spots {
			tags := w.Cells.Peek(places.Tags(s.Place))
			seen[s.Bucket]++
			switch {
			case s.Bits != bits || seen[s.Bucket] > 1 || i == 0 && s.Bucket != a && s.Bucket != b:
				t.Fatal(seed, spots)
			case i == len(spots)-1:
				if tagwords.Free(tags) != s.Slot {
					t.Fatal("not free", spots)
				}
			case tagwords.Count(tags) != 4 || fnvs.Other(s.Bucket, tagwords.Tag(tags, s.Slot), bits) != spots[i+1].Bucket:
				t.Fatal("no way", spots)
			}
		}
	}
	if lengths[1] == 0 || lengths[2] == 0 || lengths[3] == 0 {
		t.Error(lengths)
	}
	full := rigs.World(2)
	for b := range 4 {
		fill(full, 2, b, 1, 2, 3, 4)
	}
	if x := paths.NewWay(2, 0, 1, 256); len(rigs.Run(full, x, 99)) > 4 || x.Got() != nil || !x.Over() {
		t.Error("found in a full table")
	}
}
