package puts_test

import (
	"slices"
	"testing"

	"nestbox/api"
	"nestbox/places"
	"nestbox/puts"
	"nestbox/rigs"
	"nestbox/tagwords"
	"nestbox/worlds"
)

func TestP13Example(t *testing.T) {
	w := rigs.World(2)
	s := rigs.Spot(1, 1, 2)
	put := puts.NewPut(s, 7, 5)
	if put.Step(nil) || put.Over() || w.Steps() != 0 {
		t.Error("a step in no world")
	}
	if d := rigs.Differ(rigs.Run(w, put, 9), "store i1.1.2 0 5", "load t1.1 0", "store t1.1 0 458752"); d != "" || !rigs.Idle(w, put) {
		t.Error(d)
	}
	out := puts.NewOut(s)
	for i := range 3 {
		if out.Gone() != (i > 1) || out.Over() || out.Step(nil) || out.Step(w) != (i == 2) {
			t.Error(i, "gone or over")
		}
	}
	if !out.Gone() || !rigs.Idle(w, out) || !slices.Equal(rigs.Standing(w), []string{"table 2"}) {
		t.Error(rigs.Standing(w))
	}
	if d := rigs.Differ(rigs.Run(w, puts.NewOut(s), 9), "load t1.1 0", "store t1.1 0 0", "store i1.1.2 0 0"); d != "" {
		t.Error(d)
	}
	var o *puts.Out
	if o.Gone() || (&puts.Out{}).Gone() {
		t.Error("none is gone")
	}
}

func TestP13_1And2Wrong(t *testing.T) {
	w := rigs.World(2)
	s := rigs.Spot(2, 1, 2)
	var put *puts.Put
	var out *puts.Out
	for i, x := range []rigs.Op{
		put, &puts.Put{}, puts.NewPut(rigs.Spot(2, 4, 0), 7, 5), puts.NewPut(rigs.Spot(2, 1, 4), 7, 5), puts.NewPut(rigs.Spot(2, 1, -1), 7, 5), puts.NewPut(rigs.Spot(0, 0, 0), 7, 5), puts.NewPut(rigs.Spot(13, 0, 0), 7, 5),
		puts.NewPut(s, 0, 5), puts.NewPut(s, 256, 5), puts.NewPut(s, -1, 5), puts.NewPut(s, 7, 0), puts.NewPut(s, 7, -1),
		out, &puts.Out{}, puts.NewOut(rigs.Spot(2, 4, 0)), puts.NewOut(rigs.Spot(2, 1, 4)), puts.NewOut(rigs.Spot(2, 1, -1)), puts.NewOut(api.Spot{}),
	} {
		if !rigs.Idle(w, x) {
			t.Error(i, "does something")
		}
	}
	if d := rigs.Differ(rigs.Run(w, puts.NewPut(s, 255, 1<<62), 9), "store i2.1.2 0 4611686018427387904", "load t2.1 0", "store t2.1 0 16711680"); d != "" {
		t.Error(d)
	}
	var own worlds.World
	if x := puts.NewPut(s, 1, 1); x.Step(&own) || x.Step(&own) || !x.Step(&own) {
		t.Error("a world of no cells")
	}
}

func TestP13_3(t *testing.T) {
	w := rigs.World(2)
	for slot := range 4 {
		rigs.Set(w, rigs.Spot(2, 1, slot), 10+slot, 20+slot)
	}
	w.Cells.Add(places.Tags(api.Place{Bits: 2, Bucket: 1}), 5<<40)
	for slot := range 4 {
		s := rigs.Spot(2, 1, slot)
		others := func() {
			for k := range 4 {
				tags, item := w.Cells.Peek(places.Tags(s.Place)), w.Cells.Peek(places.Item(rigs.Spot(2, 1, k)))
				if k != slot && (tagwords.Tag(tags, k) != 10+k || item != uint64(20+k)) || tags>>32 != 5<<8 {
					t.Fatal("another slot changes", slot, k)
				}
				if tagwords.Tag(tags, k) != 0 && item == 0 {
					t.Fatal("a tag without an item", slot, k)
				}
			}
		}
		for out := puts.NewOut(s); !out.Over(); out.Step(w) {
			others()
		}
		if tagwords.Tag(w.Cells.Peek(places.Tags(s.Place)), slot) != 0 || w.Cells.Peek(places.Item(s)) != 0 {
			t.Fatal("not free", slot)
		}
		for put := puts.NewPut(s, 10+slot, 20+slot); !put.Over(); put.Step(w) {
			others()
		}
		others()
		if tagwords.Tag(w.Cells.Peek(places.Tags(s.Place)), slot) != 10+slot || w.Cells.Peek(places.Item(s)) != uint64(20+slot) {
			t.Fatal("not put", slot)
		}
	}
}
