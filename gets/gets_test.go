package gets_test

import (
	"slices"
	"strconv"
	"strings"
	"testing"

	"nestbox/api"
	"nestbox/epochs"
	"nestbox/fnvs"
	"nestbox/gets"
	"nestbox/notes"
	"nestbox/places"
	"nestbox/rigs"
	"nestbox/stores"
	"nestbox/tickets"
	"nestbox/worlds"
)

func set(w *worlds.World, key, value string, exp int64) {
	rigs.Run(w, stores.NewStore(0, api.Call{Verb: api.VbSet, Key: key, Value: value, Flags: 7, Exp: exp}), 999)
}

func got(x *gets.Get, a api.Answer, epoch uint64, point int) bool {
	answer, e, p := x.Got()
	return answer == a && e == epoch && p == point
}

func TestP28Example(t *testing.T) {
	w := rigs.World(2)
	key := rigs.Key(rigs.Homed(2, 1, 2))
	x := gets.NewGet(0, key)
	if x.Step(nil) || x.Over() || !got(x, api.Answer{}, 0, 0) {
		t.Error("at first")
	}
	if d := rigs.Differ(rigs.Run(w, x, 20), "load table 2", "load v63 0", "load v0 0", "load epoch 0", "load t2.1 0", "load t2.2 0", "load table 2", "load v63 0", "load v0 0"); d != "" || !got(x, api.Answer{Kind: api.AnMiss}, 0, 4) || !rigs.Idle(w, x) {
		t.Error(d)
	}
	set(w, key, "v", 0)
	tag := strconv.Itoa(fnvs.Tag(fnvs.Hash(key)))
	w.Cells.Store(api.CellEpoch, 6)
	from := w.Steps()
	hit := api.Answer{Kind: api.AnHit, Item: api.Item{Key: key, Value: "v", Flags: 7, Id: 1, Dies: -1}}
	look := []string{"load table 2", "load v63 2", "load v0 0", "load epoch 6", "load t2.1 " + tag, "load i2.1.0 1", "load table 2", "load v63 2", "load v0 0"}
	x = gets.NewGet(63, key)
	told := rigs.Run(w, x, 11)
	if !got(x, api.Answer{}, 0, 0) {
		t.Error("got ahead of its end")
	}
	told = append(told, rigs.Run(w, x, 9)...)
	if d := rigs.Differ(told, append(look, "load r1 0", "load sweep 0", "cas r1 0 1")...); d != "" || !got(x, hit, 6, from+4) || !rigs.Idle(w, x) || w.Cells.Peek(places.Ref(1)) != 1 {
		t.Error(d)
	}
	x = gets.NewGet(63, key)
	if d := rigs.Differ(rigs.Run(w, x, 20), append(look, "load r1 1")...); d != "" || !got(x, hit, 6, from+16) || w.Notes.Count() != 0 {
		t.Error(d)
	}
}

func TestP28_1Locked(t *testing.T) {
	w := rigs.World(2)
	w.Config.Tries = 1
	key := rigs.Key(rigs.Homed(2, 1, 2))
	tag := strconv.Itoa(fnvs.Tag(fnvs.Hash(key)))
	set(w, key, "v", 3)
	w.Cells.Store(api.CellStripe+0, 9)
	from := w.Steps()
	x := gets.NewGet(8, key)
	locked := []string{"load table 2", "load v63 2", "load v0 9", "load table 2", "load v63 2", "load v0 9", "add next 1 2", "load serving 1", "load table 2", "load t2.1 " + tag, "load i2.1.0 1", "load epoch 0", "add serving 1 2"}
	if d := rigs.Differ(rigs.Run(w, x, 30), append(locked, "load r1 0", "load sweep 0", "cas r1 0 1")...); d != "" || !rigs.Idle(w, x) {
		t.Error(d)
	}
	if !got(x, api.Answer{Kind: api.AnHit, Item: api.Item{Key: key, Value: "v", Flags: 7, Id: 1, Dies: 3}}, 0, from+12) {
		t.Error(x.Got())
	}
	n := strconv.Itoa
	if d := rigs.Differ(rigs.Notes(w, 0), "retry "+n(from+3)+" -1 0 0 0 0 0", "locked "+n(from+8)+" 8 0 0 0 0 0"); d != "" {
		t.Error(d)
	}
	// nothing is found, with the lock, or what is dead
	w.Cells.Store(api.CellEpoch, 3)
	for _, k := range []string{key, rigs.Key(func(h uint64) bool { return rigs.Homed(2, 1, 2)(h) && h != fnvs.Hash(key) })} {
		x = gets.NewGet(8, k)
		told := rigs.Run(w, x, 30)
		if !got(x, api.Answer{Kind: api.AnMiss}, 3, w.Steps()-1) || told[len(told)-1][:11] != "add serving" || w.Holder != -1 {
			t.Error(k, told)
		}
	}
	// it waits for the lock
	take := tickets.NewTake(1)
	rigs.Run(w, take, 9)
	x = gets.NewGet(8, key)
	if told := rigs.Run(w, x, 40); len(told) != 40 || told[39] != "load serving 4" {
		t.Error(told)
	}
}

func TestP28Wrong(t *testing.T) {
	w := rigs.World(2)
	var none *gets.Get
	for i, x := range []*gets.Get{none, {}, gets.NewGet(-1, "a"), gets.NewGet(64, "a"), gets.NewGet(0, ""), gets.NewGet(0, "a b"), gets.NewGet(0, strings.Repeat("a", 251))} {
		if !rigs.Idle(w, x) || !got(x, api.Answer{}, 0, 0) {
			t.Error(i)
		}
	}
	var own worlds.World
	x := gets.NewGet(0, "a")
	for range 30 {
		x.Step(&own)
	}
	if !got(x, api.Answer{Kind: api.AnMiss}, 0, 0) {
		t.Error("a world of no cells")
	}
	half := rigs.World(2)
	half.Cells.Store(api.CellStripe+62, 1)
	half.Config.Tries = -7
	if x = gets.NewGet(0, rigs.Key(rigs.Homed(2, 0, 3))); len(rigs.Run(half, x, 99)) != 2+2+3+1+1 {
		t.Error("tries below 0")
	}
}

// event of a run, at its point.
type event struct {
	point  int
	key    string
	answer api.Answer
	epoch  uint64
	get    bool
	stored api.Item
	drop   api.Item
}

func judge(t *testing.T, w *worlds.World, l []event) (hits int) {
	for _, n := range w.Notes.Of(notes.NtEvict) {
		item, _ := w.Items.At(n.Ref)
		l = append(l, event{point: n.Step, key: item.Key, drop: item})
	}
	slices.SortFunc(l, func(a, b event) int { return a.point - b.point })
	m := map[string]api.Item{}
	for _, e := range l {
		switch {
		case e.drop.Key != "":
			if m[e.key] != e.drop {
				t.Fatal("dropped, but not there", e)
			}
			delete(m, e.key)
		case e.get:
			item, is := m[e.key]
			want := api.Answer{Kind: api.AnMiss}
			if is && epochs.Alive(item, e.epoch) {
				want = api.Answer{Kind: api.AnHit, Item: item}
				hits++
			}
			if e.answer != want {
				t.Fatal("not the map's", e, want)
			}
		case e.stored.Key != "":
			m[e.key] = e.stored
		}
	}
	return hits
}

func TestP28_3(t *testing.T) {
	hits, locked := 0, 0
	for seed := range uint64(60) {
		w, _ := worlds.New(worlds.Config{Bits: 1 + int(seed%2), Budget: 4 + int(seed%17), Tries: int(seed % 4), Quantum: 1 + int(seed%2), Way: 2 + int(seed%9)})
		const threads = 6
		var writes [threads]*stores.Store
		var reads [threads]*gets.Get
		var keys [threads]string
		var l []event
		x := seed
		for n := 0; n < 400; {
			x = x*6364136223846793005 + 1442695040888963407
			i := int(x >> 33 % (threads + 1))
			if i == threads {
				if x>>50%10 == 0 {
					w.Tick()
				}
				continue
			}
			if writes[i] == nil && reads[i] == nil {
				n++
				keys[i] = "k" + strconv.Itoa(int(x>>40%12))
				if i < 3 {
					writes[i] = stores.NewStore(i, api.Call{Verb: []api.Verb{api.VbSet, api.VbAdd, api.VbReplace}[x>>50%3], Key: keys[i], Exp: int64(x >> 55 % 20)})
				} else {
					reads[i] = gets.NewGet(i, keys[i])
				}
			}
			if writes[i] != nil && writes[i].Step(w) {
				a, e, p := writes[i].Got()
				ev := event{point: p, key: keys[i], answer: a, epoch: e}
				for ref := w.Items.Count(); ref > 0 && a.Kind == api.AnStored; ref-- {
					if item, _ := w.Items.At(ref); item.Id == a.Number {
						ev.stored = item
						break
					}
				}
				l = append(l, ev)
				writes[i] = nil
			}
			if reads[i] != nil && reads[i].Step(w) {
				a, e, p := reads[i].Got()
				l = append(l, event{point: p, key: keys[i], answer: a, epoch: e, get: true})
				reads[i] = nil
			}
		}
		for i := 0; w.Holder != -1 || writes != [threads]*stores.Store{}; i++ {
			k := i % threads
			if writes[k] != nil && writes[k].Step(w) {
				a, e, p := writes[k].Got()
				ev := event{point: p, key: keys[k], answer: a, epoch: e}
				if item, _ := w.Items.At(w.Items.Count()); a.Kind == api.AnStored {
					ev.stored = item
				}
				l = append(l, ev)
				writes[k] = nil
			}
			if reads[k] != nil && reads[k].Step(w) {
				reads[k] = nil
			}
		}
		hits += judge(t, w, l)
		locked += len(w.Notes.Of(notes.NtLocked))
		before := w.Notes.Count()
		for k := range 12 {
			x := gets.NewGet(k, "k"+strconv.Itoa(k))
			if n := len(rigs.Run(w, x, 999)); n > 40*(w.Config.Tries+2) || w.Notes.Count() != before {
				t.Fatal(n, "steps")
			}
		}
	}
	if hits < 300 || locked < 10 {
		t.Error(hits, locked)
	}
}
