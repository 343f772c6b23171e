package rules

import (
	"testing"

	"nestbox/api"
	"nestbox/cells"
	"nestbox/changes"
	"nestbox/finds"
	"nestbox/flushes"
	"nestbox/gets"
	"nestbox/grows"
	"nestbox/hands"
	"nestbox/hops"
	"nestbox/items"
	"nestbox/looks"
	"nestbox/moves"
	"nestbox/notes"
	"nestbox/paths"
	"nestbox/places"
	"nestbox/puts"
	"nestbox/refs"
	"nestbox/rooms"
	"nestbox/stores"
	"nestbox/stripes"
	"nestbox/tickets"
	"nestbox/turns"
	"nestbox/victims"
	"nestbox/worlds"
)

type operation interface {
	Step(w *worlds.World) bool
	Over() bool
}

// rule of numbers by which worlds and calls are made.
type rule uint64

func (r *rule) next() uint64 {
	*r = *r*6364136223846793005 + 1442695040888963407
	return uint64(*r)
}

// some number: small, about the bounds, or whatever.
func (r *rule) some(most int) int {
	x := r.next()
	switch x >> 61 {
	case 0:
		return int(x<<3) - 1<<60
	case 1:
		return most - int(x>>40%3) + 1
	case 2:
		return -int(x >> 40 % 3)
	}
	return int(x >> 30 % uint64(most+1))
}

// wild world: anything may stand anywhere.
func wild(r *rule) *worlds.World {
	w := &worlds.World{Holder: r.some(9), Config: worlds.Config{Bits: r.some(4), Budget: r.some(9), Tries: r.some(3), Quantum: r.some(3), Way: r.some(20)}}
	shape := r.next() >> 60
	if shape != 1 {
		w.Items = items.New()
		for range 12 {
			w.Items.Add(api.Item{Key: wildKey(r), Value: "7", Gen: int(r.next() >> 63), Dies: -1})
		}
	}
	if shape != 2 {
		w.Notes = notes.New()
	}
	var l []cells.Word
	for bits := 1; bits < 5; bits++ {
		for n := range 4 << bits {
			s := places.At(uint64(bits), n)
			if r.next()>>62 > 0 {
				l = append(l, cells.Word{Addr: places.Item(s), Value: uint64(r.some(14))})
			}
			l = append(l, cells.Word{Addr: places.Tags(s.Place), Value: r.next() | r.next() | r.next()})
		}
	}
	for a := range api.Addr(9) {
		l = append(l, cells.Word{Addr: a, Value: uint64(r.some(6))})
	}
	l = append(l, cells.Word{Addr: api.CellTable, Value: r.next()>>61 | (r.next()>>61)<<8}, cells.Word{Addr: api.CellServing, Value: 5}, cells.Word{Addr: api.CellNext, Value: 5}, cells.Word{Addr: api.CellEpoch, Value: r.next() >> 20})
	for i := range api.Addr(16) {
		l = append(l, cells.Word{Addr: api.CellStripe + 4*i, Value: r.next() >> 60}, cells.Word{Addr: api.CellRef + i, Value: r.next()})
	}
	if shape != 3 {
		w.Cells = cells.New(l...)
	}
	return w
}

func wildKey(r *rule) string {
	return []string{"a", "b", "c", "dd", "eee", "", "not a key", "k\xff"}[r.next()>>61]
}

func wildSpot(r *rule) api.Spot {
	return api.Spot{Place: api.Place{Bits: r.some(4), Bucket: r.some(16)}, Slot: r.some(4)}
}

func wildSpots(r *rule) []api.Spot {
	var l []api.Spot
	for range r.next() >> 61 {
		l = append(l, wildSpot(r))
	}
	return l
}

func wildCall(r *rule) api.Call {
	return api.Call{Verb: api.Verb(r.next() >> 60), Key: wildKey(r), Value: []string{"", "9", "x"}[r.next()%3], Exp: int64(r.some(99)), Id: r.next() >> 60, By: r.next()}
}

// makers of all operations.
func makers() []func(r *rule) operation {
	return []func(r *rule) operation{
		func(r *rule) operation { return tickets.NewTake(r.some(64)) },
		func(r *rule) operation { return tickets.NewGive() },
		func(r *rule) operation { return stripes.NewMark(wildSpot(r).Place, wildSpot(r).Place) },
		func(r *rule) operation { return puts.NewPut(wildSpot(r), r.some(255), r.some(20)) },
		func(r *rule) operation { return puts.NewOut(wildSpot(r)) },
		func(r *rule) operation { return looks.NewLook(wildKey(r), r.some(3)) },
		func(r *rule) operation { return finds.NewFind(wildKey(r)) },
		func(r *rule) operation { return paths.NewWay(r.some(4), r.some(16), r.some(16), r.some(20)) },
		func(r *rule) operation { return hops.NewHops(wildSpots(r)) },
		func(r *rule) operation { return rooms.NewRoom(r.some(4), r.next()) },
		func(r *rule) operation { return grows.NewGrow(r.next() >> 50) },
		func(r *rule) operation { return grows.NewSwap(r.next() >> 50) },
		func(r *rule) operation { return moves.NewMove(uint64(r.some(4))+0x0302, r.some(16)) },
		func(r *rule) operation { return turns.NewTurn() },
		func(r *rule) operation { return refs.NewTouch(r.some(14)) },
		func(r *rule) operation { return hands.NewEvict() },
		func(r *rule) operation { return victims.NewVictim(r.some(4), r.next()) },
		func(r *rule) operation { return stores.NewStore(r.some(64), wildCall(r)) },
		func(r *rule) operation { return changes.NewChange(r.some(64), wildCall(r)) },
		func(r *rule) operation { return flushes.NewFlush(r.some(64), int64(r.some(9))) },
		func(r *rule) operation { return gets.NewGet(r.some(64), wildKey(r)) },
	}
}

// R1: whatever stands in a world, a step is one access, and an operation that takes its steps alone ends.
func TestWildWorlds(t *testing.T) {
	for i, make := range makers() {
		ended := 0
		for seed := range uint64(400) {
			r := rule(seed*7919 + uint64(i))
			w := wild(&r)
			x := make(&r)
			for range 3000 {
				over := x.Over()
				before := w.Steps()
				if x.Step(nil) != over || w.Steps() != before {
					t.Fatal(i, seed, "a step in no world")
				}
				now := x.Step(w)
				if now != x.Over() || over && !now || w.Cells != nil && w.Steps() != before+1 && !over || over && w.Steps() != before {
					t.Fatal(i, seed, "not one access", w.Steps()-before)
				}
				if now {
					ended++
					break
				}
			}
			// others take steps between, in one world, and in another one
			w, other := wild(&r), wild(&r)
			x = make(&r)
			for range 300 {
				makers()[r.next()%21](&r).Step(w)
				x.Step(w)
				x.Step(other)
			}
		}
		// a take alone may wait for ever
		if ended < 300 {
			t.Error(i, ended)
		}
	}
}
