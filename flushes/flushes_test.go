package flushes_test

import (
	"math"
	"testing"

	"nestbox/api"
	"nestbox/epochs"
	"nestbox/flushes"
	"nestbox/rigs"
	"nestbox/worlds"
)

func got(x *flushes.Flush, k api.AnKind, epoch uint64, point int) bool {
	a, e, p := x.Got()
	return a == api.Answer{Kind: k} && e == epoch && p == point
}

func TestP27Example(t *testing.T) {
	w := rigs.World(2)
	x := flushes.NewFlush(0, 0)
	if x.Step(nil) || x.Over() {
		t.Error("a step in no world")
	}
	told := rigs.Run(w, x, 3)
	if !got(x, 0, 0, 0) || x.Over() {
		t.Error("got ahead of its end")
	}
	told = append(told, rigs.Run(w, x, 9)...)
	if d := rigs.Differ(told, "add next 0 1", "load serving 0", "cas epoch 0 281474976710656", "add serving 0 1"); d != "" || !got(x, api.AnOk, 0, 3) || !rigs.Idle(w, x) || w.Holder != -1 {
		t.Error(d)
	}
	x = flushes.NewFlush(63, 3)
	rigs.Run(w, x, 9)
	if w.Cells.Peek(api.CellEpoch) != epochs.Put(0, 3, 1) || !got(x, api.AnOk, 281474976710656, 7) {
		t.Error(x.Got())
	}
	for range 3 {
		w.Tick()
	}
	if w.Cells.Peek(api.CellEpoch) != epochs.Put(3, 0, 2) {
		t.Error(w.Cells.Peek(api.CellEpoch))
	}
	full := epochs.Put(3, 9, api.MaxGen)
	w.Cells.Store(api.CellEpoch, full)
	x = flushes.NewFlush(1, 0)
	if d := rigs.Differ(rigs.Run(w, x, 9), "add next 2 3", "load serving 2", "load epoch 18446462598883835907", "add serving 2 3"); d != "" || !got(x, api.AnNoRoom, full, w.Steps()-1) {
		t.Error(d)
	}
}

func TestP27Wrong(t *testing.T) {
	w := rigs.World(2)
	var none *flushes.Flush
	for i, x := range []*flushes.Flush{none, {}, flushes.NewFlush(-1, 0), flushes.NewFlush(64, 0)} {
		if !rigs.Idle(w, x) || !got(x, 0, 0, 0) {
			t.Error(i)
		}
	}
	var own worlds.World
	x := flushes.NewFlush(0, 0)
	for range 4 {
		x.Step(&own)
	}
	if !got(x, api.AnOk, 0, 0) {
		t.Error("a world of no cells")
	}
}

func TestP27_3(t *testing.T) {
	for _, delay := range []int64{0, -1, math.MinInt64, 1, 4, 1000, math.MaxInt64} {
		for at := range 5 {
			w := rigs.World(2)
			w.Cells.Store(api.CellEpoch, epochs.Put(10, 12, 5))
			x := flushes.NewFlush(2, delay)
			for i := 0; !x.Over(); i++ {
				if i == at {
					for range 3 {
						w.Tick()
					}
				}
				x.Step(w)
			}
			_, e, p := x.Got()
			want := epochs.Put(13, 0, 6)
			if at > 2 {
				want = epochs.Put(10, 12, 5)
			}
			item := api.Item{Gen: epochs.Gen(e), Dies: -1}
			flushed, _ := epochs.Flush(e, delay)
			if e != want || p == 0 {
				t.Fatal(delay, at, e, p)
			}
			for k := int64(0); k < delay && k < 20; k++ {
				if flushed != e && !epochs.Alive(item, flushed) {
					t.Fatal(delay, "dead too early")
				}
				flushed = epochs.Tick(flushed)
			}
			if delay < 20 && epochs.Alive(item, flushed) {
				t.Fatal(delay, "alive")
			}
		}
	}
	// a second one takes the first one's place
	w := rigs.World(2)
	rigs.Run(w, flushes.NewFlush(0, 5), 9)
	rigs.Run(w, flushes.NewFlush(0, 9), 9)
	if w.Cells.Peek(api.CellEpoch) != epochs.Put(0, 9, 0) {
		t.Error("two delays")
	}
	rigs.Run(w, flushes.NewFlush(0, 0), 9)
	if w.Cells.Peek(api.CellEpoch) != epochs.Put(0, 0, 1) {
		t.Error("a delay, and none")
	}
	// another one has the lock: it waits
	first, second := flushes.NewFlush(0, 0), flushes.NewFlush(1, 0)
	first.Step(w)
	second.Step(w)
	for range 9 {
		second.Step(w)
	}
	if second.Over() || len(rigs.Run(w, first, 9)) != 3 || len(rigs.Run(w, second, 9)) != 3 {
		t.Error("it does not wait")
	}
}
