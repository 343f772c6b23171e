package rooms_test

import (
	"slices"
	"testing"

	"nestbox/api"
	"nestbox/fnvs"
	"nestbox/paths"
	"nestbox/places"
	"nestbox/rigs"
	"nestbox/rooms"
	"nestbox/tagwords"
	"nestbox/worlds"
)

func fill(w *worlds.World, bucket int, tags ...int) {
	for slot, tag := range tags {
		rigs.Set(w, rigs.Spot(2, bucket, slot), tag, 10*bucket+slot+1)
	}
}

func got(x *rooms.Room, s api.Spot, is bool) bool {
	spot, found := x.Got()
	return spot == s && found == is
}

func hash(a, b int) uint64 {
	return fnvs.Hash(rigs.Key(rigs.Homed(2, a, b)))
}

func TestP18Example(t *testing.T) {
	w := rigs.World(2)
	x := rooms.NewRoom(2, hash(1, 2))
	if x.Step(nil) || x.Over() || !got(x, api.Spot{}, false) {
		t.Error("at first")
	}
	if d := rigs.Differ(rigs.Run(w, x, 9), "load t2.1 0"); d != "" || !got(x, rigs.Spot(2, 1, 0), true) || !rigs.Idle(w, x) {
		t.Error(d)
	}
	fill(w, 1, 9, 9, 9, 9)
	x = rooms.NewRoom(2, hash(1, 2))
	if d := rigs.Differ(rigs.Run(w, x, 9), "load t2.1 151587081", "load t2.2 0"); d != "" || !got(x, rigs.Spot(2, 2, 0), true) {
		t.Error(d)
	}
}

func TestP18_1(t *testing.T) {
	w := rigs.World(2)
	fill(w, 1, 9, 9, 9, 9)
	fill(w, 2, 9, 9, 9, 9)
	x := rooms.NewRoom(2, hash(1, 2))
	told := rigs.Run(w, x, 40)
	if d := rigs.Differ(told, "load t2.1 151587081", "load t2.2 151587081", "load t2.1 151587081", "load t2.2 151587081", "load t2.0 0",
		"load t2.1 151587081", "load i2.1.0 11", "add v63 0 1", "add v62 0 1", "load t2.1 151587081", "store t2.1 151587081 151587072", "store i2.1.0 11 0",
		"store i2.0.0 0 11", "load t2.0 0", "store t2.0 0 9", "add v63 1 2", "add v62 1 2"); d != "" || !got(x, rigs.Spot(2, 1, 0), true) || !rigs.Idle(w, x) {
		t.Error(d)
	}
	// a slot that comes free between: the way is its spot alone
	fill(w, 1, 9, 9, 9, 9)
	x = rooms.NewRoom(2, hash(1, 2))
	rigs.Run(w, x, 2)
	rigs.Set(w, rigs.Spot(2, 1, 3), 0, 0)
	if d := rigs.Differ(rigs.Run(w, x, 40), "load t2.1 592137"); d != "" || !got(x, rigs.Spot(2, 1, 3), true) {
		t.Error(d)
	}
	// one bucket alone, and no way: two nodes at most, which lead to each other
	w = rigs.World(2)
	w.Config.Way = 2
	w.Holder = 3
	fill(w, 1, 9, 9, 9, 9)
	fill(w, 0, 9, 9, 9, 9)
	same := fnvs.Hash(rigs.Key(rigs.Homed(2, 1, 1)))
	x = rooms.NewRoom(2, same)
	if d := rigs.Differ(rigs.Run(w, x, 40), "load t2.1 151587081", "load t2.1 151587081", "load t2.0 151587081"); d != "" || !got(x, api.Spot{}, false) || !rigs.Idle(w, x) {
		t.Error(d)
	}
	if d := rigs.Differ(rigs.Notes(w, 0), "full 19 3 0 0 0 0 0"); d != "" {
		t.Error(d)
	}
}

func TestP18Wrong(t *testing.T) {
	w := rigs.World(2)
	var none *rooms.Room
	for i, x := range []*rooms.Room{none, {}, rooms.NewRoom(0, 7), rooms.NewRoom(13, 7), rooms.NewRoom(-1, 7)} {
		if !rigs.Idle(w, x) || !got(x, api.Spot{}, false) {
			t.Error(i)
		}
	}
	var own worlds.World
	if x := rooms.NewRoom(1, 0); !x.Step(&own) || !got(x, rigs.Spot(1, 0, 0), true) {
		t.Error("a world of no cells")
	}
	full := rigs.World(1)
	full.Config.Way = -4
	for n := range 8 {
		rigs.Set(full, places.At(1, n), 2, 1)
	}
	if x := rooms.NewRoom(1, 5); len(rigs.Run(full, x, 99)) > 4 || !x.Over() || !got(x, api.Spot{}, false) {
		t.Error("found")
	}
}

func TestP18_3(t *testing.T) {
	found, failed := 0, 0
	for seed := range uint64(300) {
		const bits = 3
		w := rigs.World(bits)
		w.Config.Way = 4 + int(seed%5)
		x := seed + 7
		was := map[int]api.Spot{}
		tags := map[int]int{}
		for n := range 32 {
			x = x*6364136223846793005 + 1442695040888963407
			if n/4 == int(seed%8) && n%4 == 3 {
				continue
			}
			was[n+1], tags[n+1] = places.At(bits, n), int(x>>40%255)+1
			rigs.Set(w, was[n+1], tags[n+1], n+1)
		}
		before := rigs.Standing(w)
		h := x
		b1 := fnvs.Bucket(h, bits)
		b2 := fnvs.Other(b1, fnvs.Tag(h), bits)
		way := paths.NewWay(bits, b1, b2, w.Config.Way)
		rigs.Run(w, way, 99)
		room := rooms.NewRoom(bits, h)
		rigs.Run(w, room, 999)
		s, is := room.Got()
		if is != (len(way.Got()) > 0) || !rigs.Even(w) {
			t.Fatal(seed, s, is)
		}
		if !is {
			failed++
			if n := w.Notes.All(); len(n) != 1 || !slices.Equal(before, rigs.Standing(w)) {
				t.Fatal(n)
			}
			continue
		}
		found++
		if s.Bits != bits || s.Bucket != b1 && s.Bucket != b2 || w.Cells.Peek(places.Item(s)) != 0 || tagwords.Tag(w.Cells.Peek(places.Tags(s.Place)), s.Slot) != 0 || w.Notes.Count() != 0 {
			t.Fatal(seed, s)
		}
		for n := range 32 {
			in := places.At(bits, n)
			ref := int(w.Cells.Peek(places.Item(in)))
			if ref == 0 {
				continue
			}
			if tagwords.Tag(w.Cells.Peek(places.Tags(in.Place)), in.Slot) != tags[ref] || in.Bucket != was[ref].Bucket && in.Bucket != fnvs.Other(was[ref].Bucket, tags[ref], bits) {
				t.Fatal(seed, in, ref)
			}
			delete(was, ref)
		}
		if len(was) > 0 {
			t.Fatal("lost", was)
		}
	}
	if found < 20 || failed < 20 {
		t.Error(found, failed)
	}
}
