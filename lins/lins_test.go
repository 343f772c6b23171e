package lins_test

import (
	"reflect"
	"slices"
	"strconv"
	"testing"

	"nestbox/api"
	"nestbox/epochs"
	"nestbox/hists"
	"nestbox/lins"
	"nestbox/machines"
	"nestbox/scripts"
	"nestbox/worlds"
)

func set(from, to, point int, id uint64) hists.Called {
	return hists.Called{Call: api.Call{Verb: api.VbSet, Key: "a", Value: "v"}, From: from, To: to, Point: point, Answer: api.Answer{Kind: api.AnStored, Number: id}}
}

func get(thread, from, to, point int, id uint64) hists.Called {
	x := hists.Called{Thread: thread, Call: api.Call{Verb: api.VbGet, Key: "a"}, From: from, To: to, Point: point, Answer: api.Answer{Kind: api.AnMiss}}
	if id > 0 {
		x.Answer = api.Answer{Kind: api.AnHit, Item: api.Item{Key: "a", Value: "v", Id: id, Dies: -1}}
	}
	return x
}

func TestP37Example(t *testing.T) {
	for i, c := range []struct {
		get hists.Called
		lin int
	}{{get(1, 15, 27, 18, 0), 1}, {get(1, 15, 27, 9, 0), -2}, {get(1, 5, 15, 9, 0), -1}, {get(1, 15, 27, 18, 1), -1}, {get(1, 15, 27, 18, 2), 1}, {get(1, 5, 15, 9, 1), 0}} {
		h := hists.Hist{Calls: []hists.Called{set(0, 20, 12, 1), c.get}}
		before := hists.Hist{Calls: slices.Clone(h.Calls)}
		if got := lins.Lin(h); got != c.lin || !reflect.DeepEqual(h, before) {
			t.Error(i, got)
		}
	}
	if lins.Lin(hists.Hist{}) != -1 || lins.End(hists.Hist{}).Count() != 0 {
		t.Error("of nothing")
	}
}

func TestP37_1And2(t *testing.T) {
	item := api.Item{Key: "a", Value: "v", Id: 1, Dies: -1}
	h := hists.Hist{Calls: []hists.Called{set(0, 9, 5, 1), get(1, 0, 20, 8, 1), get(1, 20, 29, 25, 0), set(30, 40, 35, 2)}, Drops: []hists.Drop{{Step: 15, Item: item}}}
	if lins.Lin(h) != -1 {
		t.Error(lins.Lin(h))
	}
	m := lins.End(h)
	if got, _ := m.At("a"); got.Id != 2 || m.Ids() != 2 || m.Count() != 1 || m == lins.End(h) {
		t.Error(got)
	}
	h.Drops[0].Item.Value = "w"
	if got, is := lins.End(h).At("a"); lins.Lin(h) != 2 || got != item || !is {
		t.Error(lins.Lin(h), got)
	}
	h.Drops = append(h.Drops, hists.Drop{Step: 35})
	if lins.Lin(h) != -2 || lins.End(h).Count() != 0 || lins.End(h).Ids() != 0 {
		t.Error("not well")
	}
}

func TestP37_3(t *testing.T) {
	for i, c := range []struct {
		calls []hists.Called
		a, b  int
	}{
		{nil, -1, -1},
		{[]hists.Called{set(0, 9, 5, 1)}, -1, -1},
		{[]hists.Called{set(0, 9, 5, 1), get(1, 9, 12, 10, 1)}, -1, -1},
		{[]hists.Called{set(0, 9, 12, 1), get(1, 9, 12, 10, 1)}, 0, 1},
		{[]hists.Called{set(0, 10, 12, 1), get(1, 9, 12, 10, 1)}, -1, -1},
		{[]hists.Called{get(1, 9, 12, 10, 1), set(0, 9, 12, 1)}, 1, 0},
		{[]hists.Called{get(1, 9, 12, 10, 1), set(0, 9, 12, 1), get(2, 9, 12, 11, 1), set(0, 9, 13, 1)}, 1, 0},
		{[]hists.Called{set(20, 30, 1, 1), set(0, 9, 12, 1), get(2, 9, 12, 11, 1)}, 1, 0},
		{[]hists.Called{set(5, 5, 8, 1), set(5, 5, 8, 1)}, 1, 0},
	} {
		if a, b := lins.Late(hists.Hist{Calls: c.calls, Drops: []hists.Drop{{Step: 10}, {Step: 3}}}); a != c.a || b != c.b {
			t.Error(i, a, b)
		}
	}
}

func TestP37_4(t *testing.T) {
	hits, drops := 0, 0
	for seed := range uint64(30) {
		m, _ := machines.New(machines.Config{World: worlds.Config{Bits: 1, Budget: 3 + int(seed%10), Tries: int(seed % 4), Quantum: 1, Way: 2 + int(seed%8)}, Conns: 4})
		x := seed
		for range 4000 {
			x = x*6364136223846793005 + 1442695040888963407
			i := int(x >> 33 % 4)
			key := "k" + strconv.Itoa(int(x>>20%9))
			switch {
			case x>>58 == 0:
				m.Do(scripts.Cmd{Kind: scripts.CmTick})
			case x>>58 < 4:
				text := []string{"get " + key + "\n", "set " + key + " 0 " + strconv.Itoa(int(x>>40%5)) + " 1\n5\r\n", "incr " + key + " 2\n", "delete " + key + "\n", "flush_all 2\n"}[x>>50%8*2%5]
				m.Do(scripts.Cmd{Kind: scripts.CmFeed, Conn: i, Bytes: []byte(text)})
			default:
				m.Do(scripts.Cmd{Kind: scripts.CmPick, Conn: i})
			}
			if m.World().Holder == -1 && x>>40%50 == 0 {
				h := m.Hist()
				if got := lins.Lin(h); got != -1 {
					t.Fatal(seed, got)
				}
				if a, b := lins.Late(h); a != -1 || b != -1 {
					t.Fatal(seed, a, b)
				}
				front := hists.Hist{}
				for n, e := range hists.Order(h) {
					if n > len(h.Calls)/2 {
						break
					}
					if e.Call >= 0 {
						front.Calls = append(front.Calls, h.Calls[e.Call])
					} else {
						front.Drops = append(front.Drops, h.Drops[e.Drop])
					}
				}
				if got := lins.Lin(front); got != -1 {
					t.Fatal(seed, "the front", got)
				}
			}
		}
		h := m.Hist()
		drops += len(h.Drops)
		for n, c := range h.Calls {
			if c.Answer.Kind == api.AnHit {
				hits++
				// another answer does not fit
				h.Calls[n].Answer = api.Answer{Kind: api.AnMiss}
				if got := lins.Lin(h); got == -1 {
					t.Fatal(seed, "a wrong answer fits")
				}
				h.Calls[n].Answer = c.Answer
				h.Calls[n].Epoch = epochs.Put(0, 0, 60000)
				if got := lins.Lin(h); got == -1 {
					t.Fatal(seed, "a wrong epoch fits")
				}
				break
			}
		}
	}
	if hits < 20 || drops < 50 {
		t.Error(hits, drops)
	}
}
