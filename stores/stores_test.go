package stores_test

import (
	"math"
	"slices"
	"strconv"
	"strings"
	"testing"

	"nestbox/api"
	"nestbox/epochs"
	"nestbox/fnvs"
	"nestbox/looks"
	"nestbox/notes"
	"nestbox/places"
	"nestbox/rigs"
	"nestbox/stores"
	"nestbox/tagwords"
	"nestbox/worlds"
)

func world(bits, budget, way int) *worlds.World {
	w, _ := worlds.New(worlds.Config{Bits: bits, Budget: budget, Tries: 3, Quantum: 1, Way: way})
	return w
}

func call(v api.Verb, key, value string) api.Call {
	return api.Call{Verb: v, Key: key, Value: value}
}

func do(t *testing.T, w *worlds.World, thread int, c api.Call) api.Answer {
	t.Helper()
	x := stores.NewStore(thread, c)
	rigs.Run(w, x, 9999)
	a, _, point := x.Got()
	if !x.Over() || w.Holder != -1 || point == 0 || point > w.Steps() {
		t.Fatal("not through", c, point)
	}
	return a
}

func stored(id uint64) api.Answer {
	return api.Answer{Kind: api.AnStored, Number: id}
}

func TestP25Example(t *testing.T) {
	w := world(2, 8, 16)
	set := call(api.VbSet, "a", "x")
	set.Flags = 5
	if a := do(t, w, 3, set); a != stored(1) {
		t.Error(a)
	}
	look := looks.NewLook("a", 0)
	rigs.Run(w, look, 99)
	ref, _, _ := look.Got()
	if item, _ := w.Items.At(ref); ref != 1 || item != (api.Item{Key: "a", Value: "x", Flags: 5, Id: 1, Dies: -1}) {
		t.Error(ref, item)
	}
	cas := call(api.VbCas, "a", "y")
	cas.Id = 2
	for i, c := range []struct {
		call api.Call
		kind api.AnKind
	}{{call(api.VbAdd, "a", "y"), api.AnNotStored}, {cas, api.AnExists}, {call(api.VbReplace, "b", "y"), api.AnNotStored}, {call(api.VbCas, "b", "y"), api.AnNotFound}} {
		if a := do(t, w, i, c.call); a != (api.Answer{Kind: c.kind}) || w.Items.Count() != 1 {
			t.Error(i, a)
		}
	}
	cas.Id = 1
	if a := do(t, w, 3, cas); a != stored(2) || w.Cells.Peek(api.CellCount) != 1 {
		t.Error(a)
	}
}

// spot of a first key of a hash in an empty table, and how its words are named.
func names(key string, bits int) (bucket, other, stripe, tag string) {
	h := fnvs.Hash(key)
	b := fnvs.Bucket(h, bits)
	o := fnvs.Other(b, fnvs.Tag(h), bits)
	return strconv.Itoa(bits) + "." + strconv.Itoa(b), strconv.Itoa(bits) + "." + strconv.Itoa(o), "v" + strconv.Itoa(fnvs.Stripe(api.Place{Bits: bits, Bucket: b})), strconv.Itoa(fnvs.Tag(h))
}

func TestP25_1NewKey(t *testing.T) {
	w := world(2, 8, 16)
	w.Cells.Store(api.CellEpoch, epochs.Put(7, 0, 2))
	key := rigs.Key(rigs.Homed(2, 1, 2))
	b, o, v, tag := names(key, 2)
	c := api.Call{Verb: api.VbSet, Key: key, Value: "v", Flags: 9, Exp: 5, Id: 77, By: 3}
	x := stores.NewStore(63, c)
	if a, e, p := x.Got(); x.Step(nil) || x.Over() || a != (api.Answer{}) || e != 0 || p != 0 {
		t.Error("at first")
	}
	told := rigs.Run(w, x, 17)
	if a, e, p := x.Got(); x.Over() || a != (api.Answer{}) || e != 0 || p != 0 {
		t.Error("got ahead of its end")
	}
	told = append(told, rigs.Run(w, x, 9)...)
	epoch := strconv.FormatUint(epochs.Put(7, 0, 2), 10)
	if d := rigs.Differ(told, "add next 0 1", "load serving 0", "load table 2", "load table 2", "load t"+b+" 0", "load t"+o+" 0", "load count 0", "load table 2", "load t"+b+" 0", "add "+v+" 0 1", "load epoch "+epoch, "add ids 0 1",
		"store i"+b+".0 0 1", "load t"+b+" 0", "store t"+b+" 0 "+tag, "add count 0 1", "add "+v+" 1 2", "add serving 0 1"); d != "" || !rigs.Idle(w, x) || len(told) != 18 {
		t.Error(d)
	}
	if a, e, p := x.Got(); a != stored(1) || e != epochs.Put(7, 0, 2) || p != 12 || w.Notes.Count() != 0 {
		t.Error(a, e, p)
	}
	if item, _ := w.Items.At(1); item != (api.Item{Key: key, Value: "v", Flags: 9, Id: 1, Dies: 12, Gen: 2}) {
		t.Error(item)
	}
	// set anew: in its place
	x = stores.NewStore(0, call(api.VbSet, key, "w"))
	if d := rigs.Differ(rigs.Run(w, x, 99), "add next 1 2", "load serving 1", "load table 2", "load table 2", "load t"+b+" "+tag, "load i"+b+".0 1", "add "+v+" 2 3", "load epoch "+epoch, "add ids 1 2", "store i"+b+".0 1 2", "add "+v+" 3 4", "add serving 1 2"); d != "" {
		t.Error(d)
	}
	if a, _, p := x.Got(); a != stored(2) || p != 1+18+8 {
		t.Error(a, p)
	}
	// refused, by what is there
	x = stores.NewStore(0, call(api.VbAdd, key, "w"))
	if d := rigs.Differ(rigs.Run(w, x, 99), "add next 2 3", "load serving 2", "load table 2", "load table 2", "load t"+b+" "+tag, "load i"+b+".0 2", "add "+v+" 4 5", "load epoch "+epoch, "add "+v+" 5 6", "add serving 2 3"); d != "" {
		t.Error(d)
	}
	// refused, by what is not there
	none := rigs.Key(rigs.Homed(2, 0, 3))
	for i, verb := range []api.Verb{api.VbReplace, api.VbCas} {
		x = stores.NewStore(0, call(verb, none, "w"))
		n := strconv.Itoa(3 + i)
		m := strconv.Itoa(4 + i)
		if d := rigs.Differ(rigs.Run(w, x, 99), "add next "+n+" "+m, "load serving "+n, "load table 2", "load table 2", "load t2.0 0", "load t2.3 0", "load epoch "+epoch, "add serving "+n+" "+m); d != "" {
			t.Error(d)
		}
		if a, e, p := x.Got(); a.Kind != []api.AnKind{api.AnNotStored, api.AnNotFound}[i] || e != epochs.Put(7, 0, 2) || p != w.Steps()-1 {
			t.Error(a, e, p)
		}
	}
}

func TestP25_1Dead(t *testing.T) {
	for _, c := range []struct {
		verb  api.Verb
		id    uint64
		kind  api.AnKind
		alive bool
	}{
		{api.VbSet, 0, api.AnStored, true}, {api.VbSet, 0, api.AnStored, false}, {api.VbAdd, 0, api.AnNotStored, true}, {api.VbAdd, 0, api.AnStored, false}, {api.VbReplace, 0, api.AnStored, true}, {api.VbReplace, 0, api.AnNotStored, false},
		{api.VbCas, 1, api.AnStored, true}, {api.VbCas, 1, api.AnNotFound, false}, {api.VbCas, 0, api.AnExists, true}, {api.VbCas, 2, api.AnExists, true}, {api.VbCas, 2, api.AnNotFound, false},
	} {
		w := world(2, 8, 16)
		set := call(api.VbSet, "k", "v")
		set.Exp = 1
		do(t, w, 0, set)
		if !c.alive {
			w.Tick()
		}
		x := call(c.verb, "k", "w")
		x.Id = c.id
		a := do(t, w, 0, x)
		want := api.Answer{Kind: c.kind}
		if c.kind == api.AnStored {
			want.Number = 2
		}
		if a != want || w.Cells.Peek(api.CellCount) != 1 || int(w.Cells.Peek(api.CellIds)) != w.Items.Count() {
			t.Error(c, a)
		}
	}
}

func TestP25_1Full(t *testing.T) {
	w := world(1, 2, 16)
	for i, key := range []string{"a", "b", "c"} {
		do(t, w, i, call(api.VbSet, key, ""))
	}
	evicts := w.Notes.Of(notes.NtEvict)
	if len(evicts) != 1 || len(w.Notes.Of(notes.NtHand)) != 1 || w.Cells.Peek(api.CellCount) != 2 || w.Cells.Peek(api.CellSweep) != 0 || evicts[0].Thread != 2 {
		t.Error(w.Notes.All())
	}
	do(t, w, 0, call(api.VbSet, "c", "again"))
	if n := len(w.Notes.Of(notes.NtEvict)); n != 1 {
		t.Error("a key that is there needs no room", n)
	}
}

// fill the buckets of a table with foreign items that may not go elsewhere.
func fill(w *worlds.World, bits int, buckets ...int) {
	for _, b := range buckets {
		for slot := range 4 {
			ref, _ := w.Items.Add(api.Item{Key: "f" + strconv.Itoa(b) + "." + strconv.Itoa(slot), Dies: -1})
			rigs.Set(w, rigs.Spot(bits, b, slot), 200, ref)
			w.Cells.Add(api.CellCount, 1)
		}
	}
}

func TestP25_1Grow(t *testing.T) {
	w := world(1, 100, 2)
	fill(w, 1, 0, 1)
	key := rigs.Key(rigs.Homed(1, 0, 1))
	h := fnvs.Hash(key)
	x := stores.NewStore(4, call(api.VbSet, key, "v"))
	told := rigs.Run(w, x, 99)
	tags := strconv.FormatUint(200*0x01010101, 10)
	b := strconv.Itoa(fnvs.Bucket(h, 2))
	head := []string{"add next 0 1", "load serving 0", "load table 1", "load table 1", "load t1.0 " + tags, "load t1.1 " + tags, "load count 8", "load table 1",
		"load t1.0 " + tags, "load t1.1 " + tags, "load t1.0 " + tags, "load t1.1 " + tags, "store cursor 0 0", "store table 1 513", "load table 513", "load t2." + b + " 0"}
	if d := rigs.Differ(told[:16], head...); d != "" || len(told) != 16+9 {
		t.Error(d, len(told))
	}
	if a, _, p := x.Got(); a != stored(1) || p != w.Steps()-7 || w.Cells.Peek(api.CellTable) != 0x0201 {
		t.Error(a, p)
	}
	if n := w.Notes.All(); len(n) != 2 || n[0].Kind != notes.NtFull || n[1].Kind != notes.NtGrow || n[1].Value != 2 || n[1].Thread != 4 {
		t.Error(n)
	}
	// the next one moves a bucket
	do(t, w, 4, call(api.VbSet, key, "w"))
	if w.Cells.Peek(api.CellCursor) != 1 {
		t.Error("no turn")
	}
}

func TestP25_1Victim(t *testing.T) {
	w := world(1, 1000, 2)
	w.Config.Budget = 12 // no growth beyond a table of two bits
	fill(w, 1, 0, 1)
	w.Cells.Store(api.CellTable, 1)
	w.Config.Bits = 1
	w.Cells.Store(api.CellTable, 4)
	fill(w, 4, 3, 4)
	w.Cells.Store(api.CellCount, 8)
	key := rigs.Key(rigs.Homed(4, 3, 4))
	x := stores.NewStore(4, call(api.VbAdd, key, "v"))
	rigs.Run(w, x, 999)
	a, _, _ := x.Got()
	n := w.Notes.All()
	if a != stored(1) || len(n) != 2 || n[0].Kind != notes.NtFull || n[1].Kind != notes.NtEvict || n[1].Spot != rigs.Spot(4, 3, 0) || w.Cells.Peek(api.CellCount) != 8 {
		t.Error(a, n)
	}
	// all of both buckets are marked: no room
	for ref := range w.Items.Count() {
		w.Cells.Store(places.Ref(ref+1), 1)
	}
	w.Cells.Store(api.CellEpoch, 6)
	other := rigs.Key(func(h uint64) bool { return rigs.Homed(4, 3, 4)(h) && h != fnvs.Hash(key) })
	x = stores.NewStore(5, call(api.VbSet, other, "v"))
	from := w.Steps()
	told := rigs.Run(w, x, 999)
	if d := rigs.Differ(told[len(told)-2:], "load epoch 6", "add serving 1 2"); d != "" {
		t.Error(d)
	}
	if a, e, p := x.Got(); a != (api.Answer{Kind: api.AnNoRoom}) || e != 6 || p != from+len(told)-1 {
		t.Error(a, e, p)
	}
	if d := rigs.Differ(rigs.Notes(w, 3), "fail "+strconv.Itoa(w.Steps()-1)+" 5 0 0 0 0 0"); d != "" {
		t.Error(d)
	}
	// then none is marked any more
	if a := do(t, w, 5, call(api.VbSet, other, "v")); a != stored(2) {
		t.Error(a)
	}
	// while a table grows it does not grow again
	w = world(1, 1000, 2)
	w.Cells.Store(api.CellTable, 0x0201)
	w.Cells.Store(api.CellCursor, 0)
	fill(w, 2, 0, 1, 2, 3)
	if a := do(t, w, 5, call(api.VbSet, "k", "v")); a != stored(1) || len(w.Notes.Of(notes.NtGrow)) != 0 || len(w.Notes.Of(notes.NtEvict)) != 1 {
		t.Error(a, w.Notes.All())
	}
}

func TestP25_1NoItems(t *testing.T) {
	w := world(2, 8, 16)
	do(t, w, 0, call(api.VbSet, "a", "x"))
	for w.Items.Count() < api.MaxItems {
		w.Items.Add(api.Item{})
	}
	for i, key := range []string{"a", "b"} {
		x := stores.NewStore(0, call(api.VbSet, key, "y"))
		before := rigs.Standing(w)
		told := rigs.Run(w, x, 99)
		if a, _, p := x.Got(); a != (api.Answer{Kind: api.AnNoRoom}) || p == 0 || !rigs.Even(w) || len(told) != []int{11, 14}[i] {
			t.Error(key, a, told)
		}
		ids := "ids " + strconv.Itoa(2+i)
		after := rigs.Standing(w)
		if len(before) != len(after) || !slices.Contains(after, ids) || w.Cells.Peek(api.CellCount) != 1 {
			t.Error(key, after)
		}
	}
}

func TestP25Wrong(t *testing.T) {
	w := world(2, 8, 16)
	var none *stores.Store
	good := call(api.VbSet, "a", "")
	for i, x := range []*stores.Store{none, {}, stores.NewStore(-1, good), stores.NewStore(64, good), stores.NewStore(0, call(api.VbSet, "", "")), stores.NewStore(0, call(api.VbSet, "a b", "")), stores.NewStore(0, call(api.VbSet, strings.Repeat("a", 251), "")),
		stores.NewStore(0, call(api.VbSet, "a", strings.Repeat("a", 1025))), stores.NewStore(0, call(api.VbNone, "a", "")), stores.NewStore(0, call(api.VbGet, "a", "")), stores.NewStore(0, call(api.VbDelete, "a", "")), stores.NewStore(0, call(api.VbTouch, "a", "")), stores.NewStore(0, call(200, "a", ""))} {
		if a, e, p := x.Got(); !rigs.Idle(w, x) || a != (api.Answer{}) || e != 0 || p != 0 {
			t.Error(i)
		}
	}
	if a := do(t, w, 63, call(api.VbSet, strings.Repeat("a", 250), strings.Repeat("\x00", 1024))); a != stored(1) {
		t.Error(a)
	}
	var own worlds.World
	x := stores.NewStore(0, good)
	for range 200 {
		x.Step(&own)
	}
	if a, _, _ := x.Got(); !x.Over() || a != (api.Answer{Kind: api.AnNoRoom}) {
		t.Error("a world of no cells", a)
	}
	w.Cells.Store(api.CellIds, math.MaxUint64)
	if a := do(t, w, 1, good); a != stored(0) {
		t.Error("Ids go round", a)
	}
}

type done struct {
	call   api.Call
	answer api.Answer
	ticket int
	point  int
}

// check the world when no store is under way.
func check(t *testing.T, w *worlds.World, all []done) {
	t.Helper()
	slices.SortFunc(all, func(a, b done) int { return a.point - b.point })
	last := map[string]uint64{}
	id := uint64(0)
	for i, d := range all {
		if i > 0 && (d.ticket <= all[i-1].ticket || d.point == all[i-1].point) {
			t.Fatal("tickets and points", d, all[i-1])
		}
		if d.answer.Kind == api.AnStored {
			if d.answer.Number <= id {
				t.Fatal("Ids", d)
			}
			id = d.answer.Number
			last[d.call.Key] = id
		}
	}
	word := w.Cells.Peek(api.CellTable)
	in := 0
	for n := range places.Spots(word) {
		s := places.At(word, n)
		ref := int(w.Cells.Peek(places.Item(s)))
		if (tagwords.Tag(w.Cells.Peek(places.Tags(s.Place)), s.Slot) == 0) != (ref == 0) {
			t.Fatal("half", s)
		}
		if ref == 0 {
			continue
		}
		in++
		item, _ := w.Items.At(ref)
		if last[item.Key] != item.Id || !slices.Contains(places.Places(fnvs.Hash(item.Key), word), s.Place) {
			t.Fatal("not the last one", item, last[item.Key])
		}
		delete(last, item.Key)
	}
	for key, id := range last {
		gone := false
		for _, n := range w.Notes.Of(notes.NtEvict) {
			item, _ := w.Items.At(n.Ref)
			gone = gone || item.Key == key && item.Id == id
		}
		if !gone {
			t.Fatal("lost", key)
		}
	}
	if w.Cells.Peek(api.CellCount) != uint64(in) || in > w.Config.Budget || !rigs.Even(w) {
		t.Fatal("count", in)
	}
}

func TestP25_3(t *testing.T) {
	evicts, grows := 0, 0
	for seed := range uint64(60) {
		w := world(1+int(seed%2), 4+int(seed%23), 2+int(seed%7))
		w.Config.Quantum = 1 + int(seed%3)
		const threads = 5
		var under [threads]*stores.Store
		var calls [threads]api.Call
		var tickets [threads]int
		var all []done
		x, drawn := seed, 0
		for n := 0; n < 150; {
			x = x*6364136223846793005 + 1442695040888963407
			i := int(x >> 33 % threads)
			if under[i] == nil {
				verbs := []api.Verb{api.VbSet, api.VbSet, api.VbAdd, api.VbReplace, api.VbCas}
				calls[i] = api.Call{Verb: verbs[x>>40%5], Key: "k" + strconv.Itoa(int(x>>45%40)), Value: strconv.Itoa(n), Id: x >> 50 % 60}
				under[i] = stores.NewStore(i, calls[i])
				n++
			}
			over := under[i].Step(w)
			if w.Cells.Last().Addr == api.CellNext {
				tickets[i] = drawn
				drawn++
			}
			if over {
				a, _, p := under[i].Got()
				all = append(all, done{calls[i], a, tickets[i], p})
				under[i] = nil
			}
			if under == [threads]*stores.Store{} {
				check(t, w, all)
			}
		}
		for w.Holder != -1 || under != [threads]*stores.Store{} {
			for i, s := range under {
				if s != nil && s.Step(w) {
					a, _, p := s.Got()
					all = append(all, done{calls[i], a, tickets[i], p})
					under[i] = nil
				}
				if w.Cells.Last().Addr == api.CellNext && w.Cells.Last().Kind == api.AcAdd && s != nil {
					tickets[i] = drawn
					drawn++
				}
			}
		}
		check(t, w, all)
		evicts += len(w.Notes.Of(notes.NtEvict))
		grows += len(w.Notes.Of(notes.NtGrow))
	}
	if evicts < 100 || grows < 30 {
		t.Error(evicts, grows)
	}
}
