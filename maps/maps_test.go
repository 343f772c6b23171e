package maps_test

import (
	"math"
	"strings"
	"testing"

	"nestbox/api"
	"nestbox/epochs"
	"nestbox/hists"
	"nestbox/maps"
)

func number(n uint64) api.Answer {
	return api.Answer{Kind: api.AnNumber, Number: n}
}

func kind(k api.AnKind) api.Answer {
	return api.Answer{Kind: k}
}

func stored(id uint64) api.Answer {
	return api.Answer{Kind: api.AnStored, Number: id}
}

func fits(m *maps.Map, c api.Call, epoch uint64, a api.Answer) bool {
	return m.Fits(hists.Called{Call: c, Epoch: epoch, Answer: a, Thread: -5, From: 9, To: 1})
}

func TestP36Example(t *testing.T) {
	m := maps.New()
	n := api.Call{Verb: api.VbGet, Key: "n"}
	if !fits(m, api.Call{Verb: api.VbSet, Key: "n", Value: "9"}, 0, stored(1)) {
		t.Error("set")
	}
	hit := api.Answer{Kind: api.AnHit, Item: api.Item{Key: "n", Value: "9", Id: 1, Dies: -1}}
	if a, is := m.Gives(n, 5); a != hit || !is || m.Epoch() != 0 || !fits(m, n, 5, hit) || m.Epoch() != 5 {
		t.Error(a, is)
	}
	if !fits(m, api.Call{Verb: api.VbIncr, Key: "n", By: 3}, 5, number(12)) || m.Ids() != 2 {
		t.Error("incr")
	}
	if item, is := m.At("n"); item != (api.Item{Key: "n", Value: "12", Id: 2, Dies: -1}) || !is {
		t.Error(item)
	}
	if a, is := m.Gives(n, 4); is || a != (api.Answer{}) {
		t.Error("an epoch that may not come")
	}
	if !fits(m, api.Call{Verb: api.VbFlush}, 5, kind(api.AnOk)) || m.Epoch() != epochs.Put(5, 0, 1) {
		t.Error(m.Epoch())
	}
	if a, is := m.Gives(n, 5); is || a != (api.Answer{}) {
		t.Error(a)
	}
	if a, is := m.Gives(n, epochs.Put(5, 0, 1)); !is || a != kind(api.AnMiss) || m.Count() != 1 {
		t.Error(a)
	}
}

// of a map that has alive: n (7), s (x), and dead: d, e, each in the epoch 50.
func set(t *testing.T) *maps.Map {
	m := &maps.Map{}
	for i, c := range []api.Call{{Key: "n", Value: "7", Flags: 3, Exp: 100}, {Key: "s", Value: "x"}, {Key: "d", Value: "1", Exp: -1}, {Key: "e", Exp: 50}} {
		c.Verb = api.VbSet
		if !fits(m, c, 0, stored(uint64(i+1))) {
			t.Fatal("set", i)
		}
	}
	return m
}

func TestP36_2And3(t *testing.T) {
	n := api.Item{Key: "n", Value: "7", Flags: 3, Id: 1, Dies: 100}
	for i, x := range []struct {
		call   api.Call
		answer api.Answer
		ids    uint64
		item   api.Item // behind it
		refuse bool
	}{
		{api.Call{Verb: api.VbGet, Key: "n"}, api.Answer{Kind: api.AnHit, Item: n}, 4, n, false},
		{api.Call{Verb: api.VbGets, Key: "n"}, api.Answer{Kind: api.AnHit, Item: n}, 4, n, false},
		{api.Call{Verb: api.VbGet, Key: "d"}, kind(api.AnMiss), 4, api.Item{Key: "d", Value: "1", Id: 3}, false},
		{api.Call{Verb: api.VbGet, Key: "e"}, kind(api.AnMiss), 4, api.Item{Key: "e", Id: 4, Dies: 50}, false},
		{api.Call{Verb: api.VbGet, Key: "q"}, kind(api.AnMiss), 4, api.Item{}, false},
		{api.Call{Verb: api.VbSet, Key: "n", Value: "z", Exp: 5, Flags: 9}, stored(5), 5, api.Item{Key: "n", Value: "z", Flags: 9, Id: 5, Dies: 55}, false},
		{api.Call{Verb: api.VbSet, Key: "d"}, stored(5), 5, api.Item{Key: "d", Id: 5, Dies: -1}, false},
		{api.Call{Verb: api.VbSet, Key: "q", Exp: 1 << 40}, stored(5), 5, api.Item{Key: "q", Id: 5, Dies: 1 << 40}, true},
		{api.Call{Verb: api.VbAdd, Key: "n"}, kind(api.AnNotStored), 4, n, false},
		{api.Call{Verb: api.VbAdd, Key: "d"}, stored(5), 5, api.Item{Key: "d", Id: 5, Dies: -1}, false},
		{api.Call{Verb: api.VbAdd, Key: "q"}, stored(5), 5, api.Item{Key: "q", Id: 5, Dies: -1}, true},
		{api.Call{Verb: api.VbReplace, Key: "n"}, stored(5), 5, api.Item{Key: "n", Id: 5, Dies: -1}, false},
		{api.Call{Verb: api.VbReplace, Key: "d"}, kind(api.AnNotStored), 4, api.Item{Key: "d", Value: "1", Id: 3}, false},
		{api.Call{Verb: api.VbReplace, Key: "q"}, kind(api.AnNotStored), 4, api.Item{}, false},
		{api.Call{Verb: api.VbCas, Key: "n", Id: 1, Value: "w"}, stored(5), 5, api.Item{Key: "n", Value: "w", Id: 5, Dies: -1}, false},
		{api.Call{Verb: api.VbCas, Key: "n", Id: 2}, kind(api.AnExists), 4, n, false},
		{api.Call{Verb: api.VbCas, Key: "d", Id: 3}, kind(api.AnNotFound), 4, api.Item{Key: "d", Value: "1", Id: 3}, false},
		{api.Call{Verb: api.VbCas, Key: "q"}, kind(api.AnNotFound), 4, api.Item{}, false},
		{api.Call{Verb: api.VbDelete, Key: "n"}, kind(api.AnDeleted), 4, api.Item{}, false},
		{api.Call{Verb: api.VbDelete, Key: "d"}, kind(api.AnNotFound), 4, api.Item{Key: "d", Value: "1", Id: 3}, false},
		{api.Call{Verb: api.VbTouch, Key: "n", Exp: -1}, kind(api.AnTouched), 4, api.Item{Key: "n", Value: "7", Flags: 3, Id: 1, Dies: 50}, false},
		{api.Call{Verb: api.VbTouch, Key: "e", Exp: 9}, kind(api.AnNotFound), 4, api.Item{Key: "e", Id: 4, Dies: 50}, false},
		{api.Call{Verb: api.VbIncr, Key: "n", By: math.MaxUint64}, number(6), 5, api.Item{Key: "n", Value: "6", Flags: 3, Id: 5, Dies: 100}, false},
		{api.Call{Verb: api.VbDecr, Key: "n", By: 8}, number(0), 5, api.Item{Key: "n", Value: "0", Flags: 3, Id: 5, Dies: 100}, false},
		{api.Call{Verb: api.VbIncr, Key: "s"}, kind(api.AnNotNumber), 4, api.Item{Key: "s", Value: "x", Id: 2, Dies: -1}, false},
		{api.Call{Verb: api.VbDecr, Key: "d"}, kind(api.AnNotFound), 4, api.Item{Key: "d", Value: "1", Id: 3}, false},
		{api.Call{Verb: api.VbFlush, Exp: 7, Key: "bad key"}, kind(api.AnOk), 4, api.Item{}, false},
	} {
		m := set(t)
		a, is := m.Gives(x.call, 50)
		if a != x.answer || !is || m.Ids() != 4 || m.Epoch() != 0 || m.Count() != 4 {
			t.Error(i, a, is)
		}
		for k := range api.AnKind(14) {
			for _, wrong := range []api.Answer{kind(k), number(99), stored(6), {Kind: k, Number: 77}, {Kind: k, Item: api.Item{Key: "n"}}} {
				may := wrong == x.answer || x.refuse && wrong == kind(api.AnNoRoom)
				if got := set(t); fits(got, x.call, 50, wrong) != may {
					t.Error(i, wrong, "fits")
				} else if !may && (got.Epoch() != 0 || got.Ids() != 4 || got.Count() != 4) {
					t.Error(i, "changed")
				}
			}
		}
		if !fits(m, x.call, 50, x.answer) || m.Ids() != x.ids {
			t.Error(i, m.Ids())
		}
		if item, has := m.At(x.call.Key); item != x.item || has != (x.item != api.Item{}) {
			t.Error(i, item)
		}
		if want := uint64(50); x.call.Verb != api.VbFlush && m.Epoch() != want || x.call.Verb == api.VbFlush && m.Epoch() != epochs.Put(50, 57, 0) {
			t.Error(i, m.Epoch())
		}
	}
	m := set(t)
	if c := (api.Call{Verb: api.VbAdd, Key: "q"}); !fits(m, c, 3, kind(api.AnNoRoom)) || m.Epoch() != 3 || m.Count() != 4 || m.Ids() != 4 {
		t.Error("refused")
	}
	for i, c := range []api.Call{{Verb: api.VbNone, Key: "n"}, {Verb: api.VbVersion, Key: "n"}, {Verb: api.VbQuit, Key: "n"}, {Verb: 99, Key: "n"}, {Verb: api.VbGet}, {Verb: api.VbSet, Key: "a b"}, {Verb: api.VbSet, Key: strings.Repeat("k", 251)}} {
		if a, is := m.Gives(c, 50); is || a != (api.Answer{}) || fits(m, c, 50, a) || fits(m, c, 50, kind(api.AnNoRoom)) || m.Epoch() != 3 {
			t.Error(i, a)
		}
	}
}

func TestP36_2Epochs(t *testing.T) {
	get := api.Call{Verb: api.VbGet, Key: "k"}
	for _, from := range []uint64{0, epochs.Put(5, 0, 2), epochs.Put(5, 8, 2), epochs.Put(5, 6, 2), epochs.Put(0, 0, api.MaxGen), epochs.Put(api.MaxTick-3, 0, 1), epochs.Put(api.MaxTick-3, api.MaxTick, 1), epochs.Put(api.MaxTick, 0, 1), epochs.Put(api.MaxTick, api.MaxTick, 1)} {
		m := maps.New()
		if !reach(m, from) {
			t.Fatal("no way to", from)
		}
		may := map[uint64]bool{from: true}
		for w, i := from, 0; i < 12; i++ {
			w = epochs.Tick(w)
			may[w] = true
		}
		for now := max(epochs.Now(from)-3, 0); now < epochs.Now(from)+10; now++ {
			for _, at := range []int{0, 3, 5, 7, 8, epochs.At(from), api.MaxTick} {
				for gen := epochs.Gen(from) - 1; gen < epochs.Gen(from)+3; gen++ {
					w := epochs.Put(now, at, gen)
					if _, is := m.Gives(get, w); is != may[w] {
						t.Fatal(epochs.Now(from), epochs.At(from), now, at, gen, is)
					}
				}
			}
		}
	}
	m := maps.New()
	for range 3 {
		if !reach(m, epochs.Put(api.MaxTick, 0, 0)) {
			t.Error("the last tick")
		}
	}
	// a flush that may not be
	m = maps.New()
	if !reach(m, epochs.Put(5, 0, api.MaxGen)) {
		t.Fatal("no way")
	}
	if c := (api.Call{Verb: api.VbFlush}); fits(m, c, epochs.Put(6, 0, api.MaxGen), kind(api.AnOk)) || !fits(m, c, epochs.Put(6, 0, api.MaxGen), kind(api.AnNoRoom)) || m.Epoch() != epochs.Put(6, 0, api.MaxGen) {
		t.Error("flushed")
	}
}

func TestP36_1And4(t *testing.T) {
	m := set(t)
	n, _ := m.At("n")
	for i, x := range []api.Item{{}, {Key: "n"}, {Key: "q"}, {Key: "n", Value: "7", Flags: 3, Id: 1, Dies: 101}, {Key: "n", Value: "7", Flags: 3, Id: 2, Dies: 100}, {Key: "n", Value: "7", Flags: 3, Id: 1, Dies: 100, Gen: 1}} {
		if m.Drop(x) || m.Count() != 4 {
			t.Error(i)
		}
	}
	if !m.Drop(n) || m.Count() != 3 || m.Drop(n) || m.Ids() != 4 {
		t.Error("drop")
	}
	if item, is := m.At("n"); is || item != (api.Item{}) {
		t.Error(item)
	}
	if m = maps.New(); m.Count() != 0 || m.Epoch() != 0 || m.Ids() != 0 || m.Drop(api.Item{}) {
		t.Error("at first")
	}
	var none *maps.Map
	a, is := none.Gives(api.Call{Verb: api.VbGet, Key: "k"}, 0)
	item, has := none.At("k")
	if a != (api.Answer{}) || is || item != (api.Item{}) || has || none.Count() != 0 || none.Epoch() != 0 || none.Ids() != 0 || none.Drop(api.Item{}) || fits(none, api.Call{Verb: api.VbGet, Key: "k"}, 0, kind(api.AnMiss)) {
		t.Error("of no map")
	}
}

// Calls of one key change nothing of others, but by Ids and flushes; Ids rise by one.
func TestP36_5(t *testing.T) {
	m, x, epoch := maps.New(), uint64(8), uint64(0)
	keys := []string{"a", "b", "c", "d"}
	for i := range 20000 {
		x = x*6364136223846793005 + 1442695040888963407
		if x>>60 < 2 {
			epoch = epochs.Tick(epoch)
		}
		c := api.Call{Verb: api.Verb(x>>40%11 + 1), Key: keys[x>>50%4], Value: []string{"5", "x"}[x>>55%2], Exp: int64(x>>30%9) - 1, By: x >> 20 % 9, Id: m.Ids() - x>>25%4}
		if c.Verb == api.VbFlush && x>>35%8 > 0 {
			continue
		}
		before := map[string]api.Item{}
		for _, k := range keys {
			before[k], _ = m.At(k)
		}
		ids := m.Ids()
		a, is := m.Gives(c, epoch)
		fit := 0
		for k := range api.AnKind(13) {
			wrong := a
			wrong.Kind = k
			if k != a.Kind && k != api.AnNoRoom && fits(m, c, epoch, wrong) {
				t.Fatal(i, c, wrong)
			}
			if k == a.Kind {
				fit++
			}
		}
		if !is || fit != 1 || !fits(m, c, epoch, a) {
			t.Fatal(i, c, a)
		}
		drew := a.Kind == api.AnStored || a.Kind == api.AnNumber
		if drew && m.Ids() != ids+1 || !drew && m.Ids() != ids || a.Kind == api.AnStored && a.Number != m.Ids() {
			t.Fatal(i, c, m.Ids())
		}
		for _, k := range keys {
			if item, _ := m.At(k); k != c.Key && item != before[k] {
				t.Fatal(i, c, "another key")
			}
		}
		epoch = m.Epoch()
	}
}

// reach an epoch, by flushes and gets.
func reach(m *maps.Map, w uint64) bool {
	flush := func(delay int64) bool {
		return m.Fits(hists.Called{Call: api.Call{Verb: api.VbFlush, Exp: delay}, Epoch: m.Epoch(), Answer: kind(api.AnOk)})
	}
	now, at, gen := epochs.Now(w), epochs.At(w), epochs.Gen(w)
	for epochs.Gen(m.Epoch()) < gen {
		if !flush(0) {
			return false
		}
	}
	if !fits(m, api.Call{Verb: api.VbGet, Key: "k"}, epochs.Put(now, 0, gen), kind(api.AnMiss)) {
		return false
	}
	if at > 0 && !flush(int64(max(at-now, 1))) {
		return false
	}
	return m.Epoch() == w
}
