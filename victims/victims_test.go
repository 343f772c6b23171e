package victims_test

import (
	"math"
	"slices"
	"strconv"
	"testing"

	"nestbox/api"
	"nestbox/fnvs"
	"nestbox/notes"
	"nestbox/places"
	"nestbox/refs"
	"nestbox/rigs"
	"nestbox/tagwords"
	"nestbox/victims"
	"nestbox/worlds"
)

func got(x *victims.Victim, s api.Spot, is bool) bool {
	spot, found := x.Got()
	return spot == s && found == is
}

func hash(bits, a, b int) uint64 {
	return fnvs.Hash(rigs.Key(rigs.Homed(bits, a, b)))
}

func TestP24Example(t *testing.T) {
	w := rigs.World(2)
	w.Holder = 1
	x := victims.NewVictim(2, hash(2, 1, 2))
	if x.Step(nil) || x.Over() || !got(x, api.Spot{}, false) {
		t.Error("at first")
	}
	if d := rigs.Differ(rigs.Run(w, x, 9), "load i2.1.0 0"); d != "" || !got(x, rigs.Spot(2, 1, 0), true) || !rigs.Idle(w, x) {
		t.Error(d)
	}
	for slot := range 4 {
		rigs.Set(w, rigs.Spot(2, 1, slot), 9, slot+1)
	}
	w.Cells.Store(places.Ref(1), 1)
	w.Cells.Store(places.Ref(2), 7)
	w.Cells.Store(api.CellCount, 4)
	from := w.Steps()
	x = victims.NewVictim(2, hash(2, 1, 2))
	told := rigs.Run(w, x, 13)
	if !got(x, api.Spot{}, false) {
		t.Error("got ahead of its end")
	}
	told = append(told, rigs.Run(w, x, 9)...)
	if d := rigs.Differ(told, "load i2.1.0 1", "load r1 1", "store r1 1 2", "load i2.1.1 2", "load r2 7", "store r2 7 8", "load i2.1.2 3", "load r3 0", "add v63 0 1",
		"load t2.1 151587081", "store t2.1 151587081 150997257", "store i2.1.2 3 0", "add v63 1 2", "add count 4 3"); d != "" || !got(x, rigs.Spot(2, 1, 2), true) || !rigs.Idle(w, x) {
		t.Error(d)
	}
	if d := rigs.Differ(rigs.Notes(w, 0), "evict "+strconv.Itoa(from+11)+" 1 3 2 1 2 0"); d != "" {
		t.Error(d)
	}
}

func TestP24_1(t *testing.T) {
	w := rigs.World(2)
	for n := range 16 {
		rigs.Set(w, places.At(2, n), 9, n+1)
		w.Cells.Store(places.Ref(n+1), 1)
	}
	h := hash(2, 1, 2)
	x := victims.NewVictim(2, h)
	var want []string
	for _, n := range []int{4, 5, 6, 7, 8, 9, 10, 11} {
		ref := strconv.Itoa(n + 1)
		want = append(want, "load "+rigs.Name(places.Item(places.At(2, n)))+" "+ref, "load r"+ref+" 1", "store r"+ref+" 1 2")
	}
	if d := rigs.Differ(rigs.Run(w, x, 99), want...); d != "" || !got(x, api.Spot{}, false) || !rigs.Idle(w, x) || w.Notes.Count() != 0 {
		t.Error(d)
	}
	// one bucket that is both: its slots alone
	for n := range 16 {
		w.Cells.Store(places.Ref(n+1), 1)
	}
	x = victims.NewVictim(2, hash(2, 3, 3))
	if n := len(rigs.Run(w, x, 99)); n != 12 || !got(x, api.Spot{}, false) {
		t.Error(n)
	}
	// a number below 0: its mark is at the address 0
	w = rigs.World(2)
	w.Cells.Store(places.Item(rigs.Spot(2, 1, 0)), 1<<63)
	w.Cells.Store(api.CellNext, 3)
	x = victims.NewVictim(2, h)
	if d := rigs.Differ(rigs.Run(w, x, 99), "load i2.1.0 9223372036854775808", "load next 3", "store next 3 4", "load i2.1.1 0"); d != "" || !got(x, rigs.Spot(2, 1, 1), true) {
		t.Error(d)
	}
	x = victims.NewVictim(2, h)
	rigs.Run(w, x, 99)
	if n := w.Notes.All(); len(n) != 1 || n[0].Ref != math.MinInt64 || !got(x, rigs.Spot(2, 1, 0), true) {
		t.Error(n)
	}
}

func TestP24Wrong(t *testing.T) {
	w := rigs.World(2)
	var none *victims.Victim
	for i, x := range []*victims.Victim{none, {}, victims.NewVictim(0, 7), victims.NewVictim(13, 7), victims.NewVictim(-1, 7), victims.NewVictim(256+2, 7)} {
		if !rigs.Idle(w, x) || !got(x, api.Spot{}, false) {
			t.Error(i)
		}
	}
	var own worlds.World
	if x := victims.NewVictim(1, 0); !x.Step(&own) || !got(x, rigs.Spot(1, 0, 0), true) {
		t.Error("a world of no cells")
	}
}

func TestP24_3(t *testing.T) {
	failed, dropped := 0, 0
	for seed := range uint64(400) {
		const bits = 2
		w := rigs.World(bits)
		x := seed + 11
		for n := range 16 {
			x = x*6364136223846793005 + 1442695040888963407
			if x>>40%60 > 0 {
				rigs.Set(w, places.At(bits, n), int(x>>30%255)+1, n+1)
				w.Cells.Add(api.CellCount, 1)
				if x>>50%8 >= seed%4 {
					w.Cells.Store(places.Ref(n+1), 1)
				}
			}
		}
		h := x
		var own []api.Spot
		for _, p := range places.Places(h, bits) {
			for slot := range 4 {
				own = append(own, api.Spot{Place: p, Slot: slot})
			}
		}
		mark := func(s api.Spot) bool {
			return refs.Marked(w.Cells.Peek(places.Ref(int(w.Cells.Peek(places.Item(s))))))
		}
		free := func(s api.Spot) bool { return w.Cells.Peek(places.Item(s)) == 0 }
		at := slices.IndexFunc(own, func(s api.Spot) bool { return free(s) || !mark(s) })
		was := -1
		if at >= 0 {
			was = int(w.Cells.Peek(places.Item(own[at])))
		}
		count := w.Cells.Peek(api.CellCount)
		v := victims.NewVictim(bits, h)
		rigs.Run(w, v, 99)
		for i, s := range own {
			if (at < 0 || i < at) && mark(s) {
				t.Fatal(seed, "still marked", s)
			}
		}
		if !rigs.Even(w) {
			t.Fatal("odd")
		}
		if at < 0 {
			failed++
			again := victims.NewVictim(bits, h)
			rigs.Run(w, again, 99)
			if _, is := again.Got(); !got(v, api.Spot{}, false) || !is {
				t.Fatal(seed, "failed twice")
			}
			continue
		}
		s := own[at]
		if !got(v, s, true) || !free(s) || tagwords.Tag(w.Cells.Peek(places.Tags(s.Place)), s.Slot) != 0 {
			t.Fatal(seed, s)
		}
		evicts := w.Notes.Of(notes.NtEvict)
		if was == 0 && (len(evicts) != 0 || w.Cells.Peek(api.CellCount) != count) || was > 0 && (len(evicts) != 1 || evicts[0].Ref != was || evicts[0].Spot != s || w.Cells.Peek(api.CellCount) != count-1) {
			t.Fatal(seed, evicts)
		}
		dropped += len(evicts)
	}
	if failed < 10 || dropped < 50 {
		t.Error(failed, dropped)
	}
}
