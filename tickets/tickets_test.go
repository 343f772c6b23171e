package tickets_test

import (
	"slices"
	"testing"

	"nestbox/api"
	"nestbox/rigs"
	"nestbox/tickets"
	"nestbox/worlds"
)

func TestP11Example(t *testing.T) {
	w := rigs.World(2)
	three, five, give := tickets.NewTake(3), tickets.NewTake(5), tickets.NewGive()
	if d := rigs.Differ(rigs.Run(w, three, 9), "add next 0 1", "load serving 0"); d != "" || w.Holder != 3 || w.Tickets[3] != 0 || !rigs.Idle(w, three) {
		t.Error(d, w.Holder)
	}
	if n, is := five.Got(); n != 0 || is || tickets.Waits(w, 5) {
		t.Error("a ticket ahead of line 1")
	}
	for range 4 {
		if five.Step(w) || five.Over() || !tickets.Waits(w, 5) || w.Tickets[5] != 2 || w.Holder != 3 {
			t.Error("5 does not wait")
		}
		if n, is := five.Got(); n != 1 || !is {
			t.Error(n, is)
		}
	}
	if !give.Step(w) || w.Holder != -1 || tickets.Waits(w, 5) || rigs.Tell(w.Cells.Last()) != "add serving 0 1" || !rigs.Idle(w, give) {
		t.Error("give")
	}
	if !five.Step(w) || w.Holder != 5 || w.Tickets[5] != 0 || rigs.Tell(w.Cells.Last()) != "load serving 1" {
		t.Error("5 has not the lock")
	}
	if n, is := five.Got(); n != 1 || !is {
		t.Error(n, is)
	}
}

func TestNoThread(t *testing.T) {
	w := rigs.World(2)
	for _, n := range []int{-1, 64, 1 << 40, -1 << 63} {
		x := tickets.NewTake(n)
		if _, is := x.Got(); is || !rigs.Idle(w, x) || tickets.Waits(w, n) {
			t.Error(n)
		}
	}
	var take *tickets.Take
	var give *tickets.Give
	if !rigs.Idle(w, take) || !rigs.Idle(w, give) || !rigs.Idle(w, &tickets.Take{}) || !rigs.Idle(w, &tickets.Give{}) || tickets.Waits(nil, 0) {
		t.Error("none is not over")
	}
	if n, is := take.Got(); n != 0 || is {
		t.Error(n, is)
	}
	for _, x := range []rigs.Op{tickets.NewTake(63), tickets.NewGive()} {
		if x.Step(nil) || x.Over() || w.Steps() != 0 {
			t.Error("a step in no world")
		}
	}
	var own worlds.World
	x := tickets.NewTake(7)
	if x.Step(&own) || !x.Step(&own) || own.Holder != 7 {
		t.Error("a world of no cells")
	}
}

func TestRound(t *testing.T) {
	w := rigs.World(2)
	w.Cells.Store(api.CellNext, 1<<64-2)
	w.Cells.Store(api.CellServing, 1<<64-2)
	for i := range 4 {
		if x := tickets.NewTake(i); len(rigs.Run(w, x, 9)) != 2 || w.Holder != i {
			t.Error(i)
		}
		rigs.Run(w, tickets.NewGive(), 9)
	}
	if w.Cells.Peek(api.CellNext) != 2 || w.Cells.Peek(api.CellServing) != 2 {
		t.Error("not round")
	}
}

// Threads that each take the lock and give it back some times, picked in an order that a rule of numbers makes.
func TestP11_5(t *testing.T) {
	for seed := range uint64(40) {
		w := rigs.World(2)
		const threads, times = 6, 5
		var takes [threads]*tickets.Take
		var gives [threads]*tickets.Give
		var through [threads]int
		var drew, had []uint64
		x, left := seed+1, threads*times
		for left > 0 {
			x = x*6364136223846793005 + 1442695040888963407
			i := int(x >> 33 % threads)
			switch {
			case gives[i] != nil:
				if w.Holder != i {
					t.Fatal("another holder")
				}
				if gives[i].Step(w) {
					gives[i] = nil
					through[i]++
					left--
				}
			case takes[i] == nil && through[i] < times:
				takes[i] = tickets.NewTake(i)
				takes[i].Step(w)
				n, _ := takes[i].Got()
				drew = append(drew, n)
			case takes[i] != nil:
				waits := tickets.Waits(w, i)
				if takes[i].Step(w) == waits {
					t.Fatal("waits and does not")
				}
				if !waits {
					n, _ := takes[i].Got()
					had = append(had, n)
					takes[i], gives[i] = nil, tickets.NewGive()
				}
			}
			if w.Steps() > 10000 {
				t.Fatal("no end")
			}
		}
		if !slices.Equal(drew, had) || !slices.IsSorted(had) || len(had) != threads*times || w.Holder != -1 {
			t.Fatal(drew, had)
		}
	}
}
