package stripes_test

import (
	"math"
	"slices"
	"testing"

	"nestbox/api"
	"nestbox/cells"
	"nestbox/rigs"
	"nestbox/stripes"
)

func place(bits, bucket int) api.Place {
	return api.Place{Bits: bits, Bucket: bucket}
}

func TestP12_1(t *testing.T) {
	for _, c := range []struct {
		l    []api.Place
		want []api.Addr
	}{
		{[]api.Place{place(1, 0), place(1, 1), place(1, 0)}, []api.Addr{95, 96}}, {nil, nil}, {[]api.Place{{}, place(1, 2), place(13, 0), place(2, -1)}, nil},
		{[]api.Place{place(2, 3), {}, place(4, 5), place(1, 1), place(1, 0)}, []api.Addr{65, 96, 95}}, {[]api.Place{place(12, 0), place(12, 64)}, []api.Addr{64 + 52}},
	} {
		if got := stripes.Of(c.l); !slices.Equal(got, c.want) || cap(got) != len(got) {
			t.Error(c.l, got)
		}
	}
	for v, odd := range map[uint64]bool{0: false, 1: true, 2: false, math.MaxUint64: true, math.MaxUint64 - 1: false} {
		if stripes.Odd(v) != odd {
			t.Error(v)
		}
	}
}

func TestP12_2(t *testing.T) {
	w := rigs.World(2)
	l := []api.Place{place(1, 0), place(1, 1), place(1, 0)}
	x := stripes.NewMark(l...)
	l[1] = place(1, 0)
	if x.Over() || x.Step(nil) || w.Steps() != 0 {
		t.Error("a step in no world")
	}
	if d := rigs.Differ(rigs.Run(w, x, 9), "add v31 0 1", "add v32 0 1"); d != "" || !rigs.Idle(w, x) {
		t.Error(d)
	}
	w.Cells.Store(95, math.MaxUint64)
	if d := rigs.Differ(rigs.Run(w, stripes.NewMark(place(1, 0)), 9), "add v31 18446744073709551615 0"); d != "" {
		t.Error(d)
	}
	var none *stripes.Mark
	for i, x := range []*stripes.Mark{none, {}, stripes.NewMark(), stripes.NewMark(api.Place{}), stripes.NewMark(place(2, 4), place(0, 0))} {
		if !rigs.Idle(w, x) {
			t.Error(i, "not over from the start")
		}
	}
}

// A reader that loads a word twice, somewhere between the steps of two marks that hold a change.
func TestP12_3(t *testing.T) {
	l := []api.Place{place(2, 0), place(2, 1), place(1, 1), place(2, 0)}
	for first := range 8 {
		for second := first; second < 8; second++ {
			w := rigs.World(2)
			w.Cells.Store(stripes.Of(l)[1], math.MaxUint64-1)
			before := w.Cells.Words()
			var loads []uint64
			at, a := 0, stripes.Of(l)[1]
			look := func() {
				for _, k := range []int{first, second} {
					if k == at {
						loads = append(loads, w.Cells.Load(a))
					}
				}
				at++
			}
			for range 2 {
				for x := stripes.NewMark(l...); !x.Over(); x.Step(w) {
					look()
				}
			}
			look()
			look()
			if calm := len(loads) == 2 && loads[0] == loads[1] && !stripes.Odd(loads[0]); calm && first < 2 && second > 1 {
				t.Error(first, second, loads)
			}
			for _, x := range stripes.Of(l) {
				before = append(before, cells.Word{Addr: x, Value: 2})
			}
			before = append(before, cells.Word{Addr: a, Value: 0})
			if !slices.Equal(w.Cells.Words(), cells.New(before...).Words()) || !rigs.Even(w) {
				t.Error(w.Cells.Words())
			}
		}
	}
}
