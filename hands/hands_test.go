package hands_test

import (
	"math"
	"slices"
	"strconv"
	"testing"

	"nestbox/api"
	"nestbox/hands"
	"nestbox/notes"
	"nestbox/places"
	"nestbox/refs"
	"nestbox/rigs"
	"nestbox/worlds"
)

func got(x *hands.Evict, ref int, s api.Spot) bool {
	r, spot := x.Got()
	return r == ref && spot == s
}

func TestP23Example(t *testing.T) {
	w := rigs.World(1)
	w.Holder = 2
	s := rigs.Spot(1, 1, 2)
	rigs.Set(w, s, 7, 5)
	w.Cells.Store(places.Ref(5), 1)
	w.Cells.Store(api.CellCount, 1)
	from := w.Steps()
	x := hands.NewEvict()
	if x.Step(nil) || x.Over() || !got(x, 0, api.Spot{}) {
		t.Error("at first")
	}
	want := []string{"store sweep 0 1", "load table 1", "load hand 0"}
	free := []string{"load i1.0.0 0", "load i1.0.1 0", "load i1.0.2 0", "load i1.0.3 0", "load i1.1.0 0", "load i1.1.1 0"}
	want = append(append(want, free...), "load i1.1.2 5", "load r5 1", "store r5 1 2", "load i1.1.3 0")
	want = append(append(want, free...), "load i1.1.2 5", "load r5 2", "add v32 0 1", "load t1.1 458752", "store t1.1 458752 0", "store i1.1.2 5 0", "add v32 1 2", "add count 1 0", "store hand 0 7", "store sweep 1 0")
	told := rigs.Run(w, x, 28)
	if !got(x, 0, api.Spot{}) {
		t.Error("got ahead of its end")
	}
	told = append(told, rigs.Run(w, x, 9)...)
	if d := rigs.Differ(told, want...); d != "" || len(told) != 29 || !got(x, 5, s) || !rigs.Idle(w, x) {
		t.Error(d)
	}
	step := strconv.Itoa
	if d := rigs.Differ(rigs.Notes(w, 0), "evict "+step(from+24)+" 2 5 1 1 2 0", "hand "+step(from+28)+" 2 5 1 1 2 15"); d != "" {
		t.Error(d)
	}
}

func TestP23_1Nothing(t *testing.T) {
	w := rigs.World(1)
	w.Cells.Store(api.CellHand, 8+3)
	x := hands.NewEvict()
	told := rigs.Run(w, x, 99)
	if len(told) != 3+16+2 || told[3] != "load i1.0.3 0" || told[18] != "load i1.0.2 0" || told[19] != "store hand 11 3" || told[20] != "store sweep 1 0" || !got(x, 0, api.Spot{}) || !rigs.Idle(w, x) {
		t.Error(told)
	}
	if d := rigs.Differ(rigs.Notes(w, 0), "hand 21 -1 0 0 0 0 16"); d != "" {
		t.Error(d)
	}
	w = rigs.World(1)
	w.Cells.Store(api.CellHand, math.MaxUint64)
	if told := rigs.Run(w, hands.NewEvict(), 99); told[3] != "load i1.1.3 0" || told[19] != "store hand 18446744073709551615 7" {
		t.Error(told)
	}
	var none *hands.Evict
	for i, x := range []*hands.Evict{none, {}} {
		if !rigs.Idle(w, x) || !got(x, 0, api.Spot{}) {
			t.Error(i)
		}
	}
	var own worlds.World
	x = hands.NewEvict()
	for range 21 {
		x.Step(&own)
	}
	if !x.Over() {
		t.Error("a world of no cells")
	}
}

func TestP23_1Odd(t *testing.T) {
	w := rigs.World(1)
	w.Cells.Store(api.CellTable, 0x0201)
	w.Cells.Store(places.Item(rigs.Spot(2, 3, 3)), 1<<63) // a number below 0: its mark is at the address 0
	w.Cells.Store(api.CellHand, 23)
	x := hands.NewEvict()
	told := rigs.Run(w, x, 99)
	if d := rigs.Differ(told, "store sweep 0 1", "load table 513", "load hand 23", "load i2.3.3 9223372036854775808", "load next 0", "add v1 0 1", "load t2.3 0", "store t2.3 0 0", "store i2.3.3 9223372036854775808 0", "add v1 1 2",
		"add count 0 18446744073709551615", "store hand 23 0", "store sweep 1 0"); d != "" || !got(x, math.MinInt64, rigs.Spot(2, 3, 3)) {
		t.Error(d)
	}
}

// By itself: the first that is not marked, from the hand on, else the first one.
func TestP23_3(t *testing.T) {
	for seed := range uint64(300) {
		w := rigs.World(2)
		x := seed
		word := uint64(2)
		if seed%3 == 0 {
			word = 0x0302
			w.Cells.Store(api.CellTable, word)
		}
		all := places.Spots(word)
		hand := int(x % uint64(all))
		w.Cells.Store(api.CellHand, uint64(hand))
		marks := map[int]bool{}
		var order []int
		for i := range all {
			n := (hand + i) % all
			x = x*6364136223846793005 + 1442695040888963407
			if x>>40%4 == 0 {
				rigs.Set(w, places.At(word, n), 9, n+1)
				marks[n] = x>>50%uint64(2+seed%4) > 0
				order = append(order, n)
				if marks[n] {
					w.Cells.Store(places.Ref(n+1), 4*x|1)
				}
			}
		}
		at := slices.IndexFunc(order, func(n int) bool { return !marks[n] })
		looked := 0
		if at < 0 && len(order) > 0 {
			at, looked = 0, all
		}
		e := hands.NewEvict()
		rigs.Run(w, e, 999)
		if len(order) == 0 {
			if !got(e, 0, api.Spot{}) {
				t.Fatal("of nothing")
			}
			continue
		}
		n := order[at]
		looked += (n-hand+all)%all + 1
		if !got(e, n+1, places.At(word, n)) || w.Cells.Peek(api.CellHand) != uint64((n+1)%all) || w.Cells.Peek(places.Item(places.At(word, n))) != 0 || w.Notes.Of(notes.NtHand)[0].Value != looked || w.Cells.Peek(api.CellSweep) != 0 {
			t.Fatal(seed, n, looked)
		}
		for i, k := range order {
			by := i < at || looked > all
			if marked := refs.Marked(w.Cells.Peek(places.Ref(k + 1))); marked != (marks[k] && !by) {
				t.Fatal(seed, k, marked)
			}
		}
	}
}

// Whatever readers touch meanwhile, one is taken out.
func TestP23_3Touched(t *testing.T) {
	for seed := range uint64(150) {
		w := rigs.World(1)
		for n := range 8 {
			rigs.Set(w, places.At(1, n), 9, n+1)
		}
		e := hands.NewEvict()
		var under [16]*refs.Touch
		x := seed
		for !e.Over() {
			x = x*6364136223846793005 + 1442695040888963407
			i := int(x >> 33 % 17)
			if i == 16 {
				e.Step(w)
				continue
			}
			if under[i].Over() {
				under[i] = refs.NewTouch(i%8 + 1)
			}
			under[i].Step(w)
		}
		ref, _ := e.Got()
		n := w.Notes.Of(notes.NtHand)[0]
		if _, gone := w.Notes.Dropped(ref); ref == 0 || !gone || n.Value > 16 {
			t.Fatal(seed, ref, n)
		}
	}
}
