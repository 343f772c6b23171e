package looks_test

import (
	"strconv"
	"testing"

	"nestbox/api"
	"nestbox/fnvs"
	"nestbox/looks"
	"nestbox/places"
	"nestbox/puts"
	"nestbox/rigs"
	"nestbox/stripes"
	"nestbox/worlds"
)

func got(x *looks.Look, ref int, epoch uint64, point int) bool {
	r, e, p := x.Got()
	return r == ref && e == epoch && p == point
}

func TestP14Example(t *testing.T) {
	w := rigs.World(1)
	key := rigs.Key(rigs.Homed(1, 0, 1))
	x := looks.NewLook(key, 3)
	if x.Step(nil) || x.Over() {
		t.Error("a step in no world")
	}
	for range 8 {
		if x.Step(w) || !got(x, 0, 0, 0) || x.Fails() {
			t.Error("over too early")
		}
	}
	if !x.Step(w) || !got(x, 0, 0, 4) || x.Fails() || !rigs.Idle(w, x) || w.Notes.Count() != 0 {
		t.Error("not as the example")
	}
}

func TestP14_1Found(t *testing.T) {
	w := rigs.World(2)
	h := rigs.Homed(2, 1, 2)
	key := rigs.Key(h)
	same := rigs.Key(func(x uint64) bool { return h(x) && fnvs.Tag(x) == fnvs.Tag(fnvs.Hash(key)) && x != fnvs.Hash(key) })
	tag := fnvs.Tag(fnvs.Hash(key))
	w.Cells.Store(api.CellEpoch, 77)
	rigs.Seat(w, rigs.Spot(2, 1, 0), same)
	rigs.Set(w, rigs.Spot(2, 1, 1), tag, 99)
	rigs.Set(w, rigs.Spot(2, 1, 2), tag%255+1, 1)
	rigs.Set(w, rigs.Spot(2, 1, 3), tag, 1<<63-1)
	w.Cells.Store(places.Item(rigs.Spot(2, 1, 3)), 1<<63)
	ref := rigs.Seat(w, rigs.Spot(2, 2, 3), key)
	rigs.Seat(w, rigs.Spot(2, 3, 3), key)
	t1, t2 := strconv.FormatUint(w.Cells.Peek(places.Tags(api.Place{Bits: 2, Bucket: 1})), 10), strconv.FormatUint(w.Cells.Peek(places.Tags(api.Place{Bits: 2, Bucket: 2})), 10)
	from := w.Steps()
	x := looks.NewLook(key, 0)
	if d := rigs.Differ(rigs.Run(w, x, 30), "load table 2", "load v63 0", "load v0 0", "load epoch 77", "load t2.1 "+t1, "load i2.1.0 1", "load i2.1.1 99", "load i2.1.3 9223372036854775808", "load t2.2 "+t2, "load i2.2.3 2", "load table 2", "load v63 0", "load v0 0"); d != "" {
		t.Error(d)
	}
	if !got(x, ref, 77, from+4) || x.Fails() {
		t.Error(x.Got())
	}
	first := looks.NewLook(same, 0)
	if d := rigs.Differ(rigs.Run(w, first, 30), "load table 2", "load v63 0", "load v0 0", "load epoch 77", "load t2.1 "+t1, "load i2.1.0 1", "load table 2", "load v63 0", "load v0 0"); d != "" || !got(first, 1, 77, w.Steps()-5) {
		t.Error(d)
	}
}

func TestP14_1Again(t *testing.T) {
	w := rigs.World(2)
	w.Holder = 7
	key := rigs.Key(rigs.Homed(2, 1, 2))
	p := api.Place{Bits: 2, Bucket: 2}
	rigs.Run(w, stripes.NewMark(p), 1)
	x := looks.NewLook(key, 4)
	var told []string
	step := func(n int) {
		for range n {
			x.Step(w)
			told = append(told, rigs.Tell(w.Cells.Last()))
		}
	}
	step(4) // odd at once; then the table
	rigs.Run(w, stripes.NewMark(p), 1)
	step(3 + 2) // calm, up to the tags of the second place
	w.Cells.Store(api.CellTable, 2|1<<40)
	step(1 + 8) // another table; all but the versions again
	rigs.Run(w, stripes.NewMark(p), 1)
	step(1) // it is odd by now
	if x.Over() || !got(x, 0, 0, 0) {
		t.Error("over")
	}
	rigs.Run(w, stripes.NewMark(p), 1)
	step(7 + 1)
	rigs.Run(w, stripes.NewMark(p, p), 1)
	step(1)
	if d := rigs.Differ(told,
		"load table 2", "load v63 0", "load v0 1", "load table 2", "load v63 0", "load v0 2", "load epoch 0", "load t2.1 0", "load t2.2 0",
		"load table 1099511627778", "load table 1099511627778", "load v63 0", "load v0 2", "load epoch 0", "load t2.1 0", "load t2.2 0", "load table 1099511627778", "load v63 0", "load v0 3",
		"load table 1099511627778", "load v63 0", "load v0 4", "load epoch 0", "load t2.1 0", "load t2.2 0", "load table 1099511627778", "load v63 0", "load v0 5"); d != "" {
		t.Error(d)
	}
	if d := rigs.Differ(rigs.Notes(w, 0), "retry 4 7 0 0 0 0 3", "retry 13 7 0 0 0 0 2", "retry 23 7 0 0 0 0 1", "retry 34 7 0 0 0 0 0"); d != "" || x.Over() {
		t.Error(d)
	}
	rigs.Run(w, x, 3)
	if !x.Over() || !x.Fails() || !got(x, 0, 0, 0) || !rigs.Idle(w, x) || w.Notes.Count() != 4 {
		t.Error("it did not fail")
	}
}

func TestP14Wrong(t *testing.T) {
	w := rigs.World(2)
	var none *looks.Look
	for _, x := range []*looks.Look{none, {}} {
		if !rigs.Idle(w, x) || x.Fails() || !got(x, 0, 0, 0) {
			t.Error("none is not over")
		}
	}
	w.Cells.Store(api.CellStripe+62, 1)
	for _, tries := range []int{0, -1, -1 << 63} {
		x := looks.NewLook(rigs.Key(rigs.Homed(2, 0, 1)), tries)
		if len(rigs.Run(w, x, 9)) != 2 || !x.Fails() || w.Notes.Count() != 0 {
			t.Error(tries)
		}
	}
	var own worlds.World
	x := looks.NewLook("", 2)
	for range 20 {
		x.Step(&own)
	}
	if !x.Over() || x.Fails() {
		t.Error("a world of no cells")
	}
}

// A writer puts the key in and takes it out again between marks, at random steps of a Look.
func TestP14_3(t *testing.T) {
	key := rigs.Key(rigs.Homed(2, 1, 2))
	found, missed, failed := 0, 0, 0
	for seed := range uint64(600) {
		w := rigs.World(2)
		ref := rigs.Seat(w, rigs.Spot(2, 3, 0), key)
		spots := []api.Spot{rigs.Spot(2, 1, 0), rigs.Spot(2, 2, 3)}
		there := map[int]bool{}
		var change []rigs.Op
		in, x := false, seed
		look := looks.NewLook(key, 3)
		for !look.Over() {
			x = x*6364136223846793005 + 1442695040888963407
			if x>>40%uint64(2+seed%9) == 0 {
				if len(change) == 0 {
					s := spots[seed%2]
					in = !in
					mark := []api.Place{s.Place, {Bits: 2, Bucket: 0}}
					change = []rigs.Op{stripes.NewMark(mark...), puts.NewOut(s), stripes.NewMark(mark...)}
					if in {
						change[1] = puts.NewPut(s, fnvs.Tag(fnvs.Hash(key)), ref)
					}
				}
				if change[0].Step(w) {
					change = change[1:]
				}
			} else {
				look.Step(w)
			}
			there[w.Steps()] = in && len(change) < 2 || !in && len(change) > 1
		}
		if look.Fails() {
			failed++
			continue
		}
		r, _, point := look.Got()
		if (r == ref) != there[point] || r != ref && r != 0 {
			t.Fatal(seed, r, point)
		}
		if r == ref {
			found++
		} else {
			missed++
		}
	}
	if found < 20 || missed < 20 || failed < 20 {
		t.Error(found, missed, failed)
	}
	for i := range 50 { // marks of other stripes, ticks and a finished growth ahead of it: no second try
		w := rigs.World(2)
		x := looks.NewLook(key, 0)
		for n := 0; !x.Over(); n++ {
			if n == i%10 {
				w.Tick()
				rigs.Run(w, stripes.NewMark(api.Place{Bits: 2, Bucket: i % 2 * 3}), 5)
			}
			x.Step(w)
		}
		if x.Fails() || w.Notes.Count() != 0 {
			t.Error(i, "tried again")
		}
	}
}
