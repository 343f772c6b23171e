package hists_test

import (
	"reflect"
	"slices"
	"testing"

	"nestbox/api"
	"nestbox/hists"
	"nestbox/notes"
	"nestbox/rigs"
	"nestbox/worlds"
)

func call(thread, from, to, point int) hists.Called {
	return hists.Called{Thread: thread, From: from, To: to, Point: point}
}

func TestP34Example(t *testing.T) {
	h := hists.Hist{Calls: []hists.Called{call(0, 0, 4, 3), call(1, 1, 9, 6)}, Drops: []hists.Drop{{Step: 5}}}
	first, second, drop := hists.Entry{Step: 3, Call: 0, Drop: -1}, hists.Entry{Step: 6, Call: 1, Drop: -1}, hists.Entry{Step: 5, Call: -1}
	if got := hists.Order(h); !slices.Equal(got, []hists.Entry{first, drop, second}) || !hists.Well(h) || cap(got) != len(got) {
		t.Error(got)
	}
	h.Drops[0].Step, drop.Step = 6, 6
	if got := hists.Order(h); !slices.Equal(got, []hists.Entry{first, second, drop}) || hists.Well(h) {
		t.Error(got)
	}
}

func TestP34_1(t *testing.T) {
	w := rigs.World(2)
	a, _ := w.Items.Add(api.Item{Key: "a"})
	b, _ := w.Items.Add(api.Item{Key: "b"})
	w.Note(notes.NtEvict, b, api.Spot{}, 0)
	w.Tick()
	w.Note(notes.NtHand, a, api.Spot{}, 0)
	w.Note(notes.NtEvict, 99, api.Spot{}, 0)
	w.Tick()
	w.Note(notes.NtEvict, a, api.Spot{}, 0)
	want := []hists.Drop{{Step: 0, Item: api.Item{Key: "b"}}, {Step: 1}, {Step: 2, Item: api.Item{Key: "a"}}}
	if got := hists.Drops(w); !slices.Equal(got, want) || cap(got) != len(got) {
		t.Error(got)
	}
	if hists.Drops(nil) != nil || hists.Drops(&worlds.World{}) != nil || hists.Drops(rigs.World(1)) != nil {
		t.Error("of none")
	}
}

func TestP34_2(t *testing.T) {
	h := hists.Hist{Calls: []hists.Called{call(0, 0, 9, 7), call(1, 0, 9, 2), call(2, 0, 9, 7), call(3, 0, 9, -4)}, Drops: []hists.Drop{{Step: 7}, {Step: 2}, {Step: 7}, {Step: 1}}}
	before := hists.Hist{Calls: slices.Clone(h.Calls), Drops: slices.Clone(h.Drops)}
	want := []hists.Entry{{-4, 3, -1}, {1, -1, 3}, {2, 1, -1}, {2, -1, 1}, {7, 0, -1}, {7, 2, -1}, {7, -1, 0}, {7, -1, 2}}
	if got := hists.Order(h); !slices.Equal(got, want) || !reflect.DeepEqual(h, before) {
		t.Error(got)
	}
	if got := hists.Order(hists.Hist{}); len(got) != 0 {
		t.Error(got)
	}
}

func TestP34_3(t *testing.T) {
	for i, c := range []struct {
		h    hists.Hist
		well bool
	}{
		{hists.Hist{}, true},
		{hists.Hist{Calls: []hists.Called{call(0, 0, 1, 1)}}, true},
		{hists.Hist{Calls: []hists.Called{call(63, 0, 1, 1)}}, true},
		{hists.Hist{Calls: []hists.Called{call(64, 0, 1, 1)}}, false},
		{hists.Hist{Calls: []hists.Called{call(-1, 0, 1, 1)}}, false},
		{hists.Hist{Calls: []hists.Called{call(0, -1, 1, 1)}}, false},
		{hists.Hist{Calls: []hists.Called{call(0, 1, 2, 1)}}, false},
		{hists.Hist{Calls: []hists.Called{call(0, 0, 2, 3)}}, false},
		{hists.Hist{Calls: []hists.Called{call(0, 0, 0, 0)}}, false},
		{hists.Hist{Calls: []hists.Called{call(0, 0, 4, 3), call(0, 4, 6, 5)}}, true},
		{hists.Hist{Calls: []hists.Called{call(0, 0, 4, 3), call(0, 3, 6, 5)}}, false},
		{hists.Hist{Calls: []hists.Called{call(0, 4, 6, 5), call(0, 0, 4, 3)}}, false},
		{hists.Hist{Calls: []hists.Called{call(0, 4, 6, 5), call(1, 0, 4, 3)}}, true},
		{hists.Hist{Calls: []hists.Called{call(0, 0, 6, 5), call(1, 0, 6, 5)}}, false},
		{hists.Hist{Drops: []hists.Drop{{Step: 3}, {Step: 3}}}, false},
		{hists.Hist{Drops: []hists.Drop{{Step: -3}, {Step: 0}}}, true},
		{hists.Hist{Calls: []hists.Called{call(0, 0, 4, 3), call(1, 3, 9, 8), call(0, 4, 7, 6), call(0, 6, 9, 9)}}, false},
	} {
		if hists.Well(c.h) != c.well {
			t.Error(i)
		}
	}
}

func TestP34_4(t *testing.T) {
	h := hists.Hist{Calls: []hists.Called{call(0, 0, 4, 3), call(1, 0, 5, 4), call(0, 4, 7, 6)}}
	if got := hists.Of(h, 0); !slices.Equal(got, []hists.Called{h.Calls[0], h.Calls[2]}) || cap(got) != len(got) {
		t.Error(got)
	}
	if len(hists.Of(h, 1)) != 1 || len(hists.Of(h, 2)) != 0 || len(hists.Of(h, -1)) != 0 {
		t.Error("of others")
	}
	hists.Of(h, 0)[0].Point = 99
	if h.Calls[0].Point != 3 {
		t.Error("shared memory")
	}
}

func TestP34_5(t *testing.T) {
	x := uint64(1)
	roll := func(n int) int {
		x = x*6364136223846793005 + 1442695040888963407
		return int(x >> 33 % uint64(n))
	}
	wells := 0
	for range 3000 {
		var h hists.Hist
		for range 1 + roll(6) {
			from := roll(30)
			point := from + 1 + roll(9)
			h.Calls = append(h.Calls, call(roll(4), from, point+roll(9), point))
		}
		slices.SortFunc(h.Calls, func(a, b hists.Called) int { return a.To - b.To })
		for range roll(3) {
			h.Drops = append(h.Drops, hists.Drop{Step: roll(50)})
		}
		order := hists.Order(h)
		at := map[int]int{}
		calls, drops := map[int]bool{}, map[int]bool{}
		for i, e := range order {
			if e.Call >= 0 {
				at[e.Call] = i
				calls[e.Call] = true
			} else {
				drops[e.Drop] = true
			}
		}
		if len(order) != len(h.Calls)+len(h.Drops) || len(calls) != len(h.Calls) || len(drops) != len(h.Drops) {
			t.Fatal("entries", order)
		}
		if !hists.Well(h) {
			continue
		}
		wells++
		for a, c := range h.Calls {
			for b, d := range h.Calls {
				if (c.To <= d.From || a < b && c.Thread == d.Thread) && at[a] > at[b] {
					t.Fatal(h, a, b)
				}
			}
		}
		part := hists.Hist{Calls: slices.Delete(slices.Clone(h.Calls), 0, 1)}
		if !hists.Well(part) || !hists.Well(hists.Hist{Calls: h.Calls}) {
			t.Fatal("a part is not well", h)
		}
	}
	if wells < 100 {
		t.Error(wells)
	}
}
