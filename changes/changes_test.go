package changes_test

import (
	"math"
	"strconv"
	"strings"
	"testing"

	"nestbox/api"
	"nestbox/changes"
	"nestbox/epochs"
	"nestbox/finds"
	"nestbox/fnvs"
	"nestbox/rigs"
	"nestbox/stores"
	"nestbox/worlds"
)

func world() *worlds.World {
	w, _ := worlds.New(worlds.Config{Bits: 2, Budget: 8, Tries: 3, Quantum: 1, Way: 16})
	return w
}

func set(w *worlds.World, key, value string, exp int64) {
	rigs.Run(w, stores.NewStore(0, api.Call{Verb: api.VbSet, Key: key, Value: value, Flags: 7, Exp: exp}), 999)
}

func do(t *testing.T, w *worlds.World, c api.Call) api.Answer {
	t.Helper()
	x := changes.NewChange(5, c)
	rigs.Run(w, x, 999)
	a, e, p := x.Got()
	if !x.Over() || w.Holder != -1 || p == 0 || p >= w.Steps() || e != w.Cells.Peek(api.CellEpoch) || !rigs.Even(w) {
		t.Fatal("not through", c)
	}
	return a
}

// at a key: its record.
func at(w *worlds.World, key string) api.Item {
	f := finds.NewFind(key)
	rigs.Run(w, f, 99)
	_, ref := f.Got()
	item, _ := w.Items.At(ref)
	return item
}

func TestP26Example(t *testing.T) {
	w := world()
	set(w, "n", "9", 0)
	for i, c := range []struct {
		call   api.Call
		answer api.Answer
	}{
		{api.Call{Verb: api.VbIncr, Key: "n", By: 3}, api.Answer{Kind: api.AnNumber, Number: 12}},
		{api.Call{Verb: api.VbDecr, Key: "n", By: 20}, api.Answer{Kind: api.AnNumber}},
		{api.Call{Verb: api.VbTouch, Key: "n", Exp: -1}, api.Answer{Kind: api.AnTouched}},
		{api.Call{Verb: api.VbDelete, Key: "n"}, api.Answer{Kind: api.AnNotFound}},
	} {
		if a := do(t, w, c.call); a != c.answer {
			t.Error(i, a)
		}
		if item := at(w, "n"); i == 0 && item != (api.Item{Key: "n", Value: "12", Flags: 7, Id: 2, Dies: -1}) {
			t.Error(item)
		}
	}
	set(w, "n", "x", 0)
	for i, c := range []struct {
		verb api.Verb
		kind api.AnKind
	}{{api.VbIncr, api.AnNotNumber}, {api.VbDecr, api.AnNotNumber}, {api.VbDelete, api.AnDeleted}, {api.VbDelete, api.AnNotFound}, {api.VbTouch, api.AnNotFound}, {api.VbIncr, api.AnNotFound}} {
		if a := do(t, w, api.Call{Verb: c.verb, Key: "n"}); a != (api.Answer{Kind: c.kind}) {
			t.Error(i, a)
		}
	}
}

func TestP26_1(t *testing.T) {
	w := world()
	key := rigs.Key(rigs.Homed(2, 1, 2))
	set(w, key, "41", 0)
	w.Cells.Store(api.CellEpoch, 5)
	tag := strconv.Itoa(fnvs.Tag(fnvs.Hash(key)))
	ticket := 1
	run := func(c api.Call, last bool, want ...string) {
		t.Helper()
		x := changes.NewChange(63, c)
		if a, e, p := x.Got(); x.Step(nil) || x.Over() || a != (api.Answer{}) || e != 0 || p != 0 {
			t.Error("at first")
		}
		n, m := strconv.Itoa(ticket), strconv.Itoa(ticket+1)
		ticket++
		from := w.Steps()
		want = append(append([]string{"add next " + n + " " + m, "load serving " + n, "load table 2", "load table 2"}, want...), "add serving "+n+" "+m)
		told := rigs.Run(w, x, len(want)-1)
		if a, e, p := x.Got(); x.Over() || a != (api.Answer{}) || e != 0 || p != 0 {
			t.Error("got ahead of its end")
		}
		told = append(told, rigs.Run(w, x, 9)...)
		if d := rigs.Differ(told, want...); d != "" || !rigs.Idle(w, x) {
			t.Error(d)
		}
		point := from + 8
		if !last {
			point = from + 7
		}
		if _, e, p := x.Got(); e != 5 || p != point {
			t.Error(e, p, point)
		}
	}
	v := func(n int) string { return "add v63 " + strconv.Itoa(n) + " " + strconv.Itoa(n+1) }
	run(api.Call{Verb: api.VbIncr, Key: key, By: 1}, true, "load t2.1 "+tag, "load i2.1.0 1", v(2), "load epoch 5", "add ids 1 2", "store i2.1.0 1 2", v(3))
	run(api.Call{Verb: api.VbTouch, Key: key, Exp: 9}, true, "load t2.1 "+tag, "load i2.1.0 2", v(4), "load epoch 5", "store i2.1.0 2 3", v(5))
	if item := at(w, key); item != (api.Item{Key: key, Value: "42", Flags: 7, Id: 2, Dies: 14}) {
		t.Error(item)
	}
	set(w, key, "4x", 0)
	ticket++
	run(api.Call{Verb: api.VbDecr, Key: key, By: 1}, true, "load t2.1 "+tag, "load i2.1.0 4", v(8), "load epoch 5", v(9))
	run(api.Call{Verb: api.VbDelete, Key: key}, true, "load t2.1 "+tag, "load i2.1.0 4", v(10), "load epoch 5", "load t2.1 "+tag, "store t2.1 "+tag+" 0", "store i2.1.0 4 0", "add count 1 0", v(11))
	run(api.Call{Verb: api.VbDelete, Key: key}, false, "load t2.1 0", "load t2.2 0", "load epoch 5")
	set(w, key, "7", -1)
	ticket++
	for i, verb := range []api.Verb{api.VbDelete, api.VbTouch, api.VbIncr, api.VbDecr} {
		run(api.Call{Verb: verb, Key: key}, true, "load t2.1 "+tag, "load i2.1.0 5", v(14+2*i), "load epoch 5", v(15+2*i))
	}
	if w.Cells.Peek(api.CellCount) != 1 || w.Cells.Peek(api.CellIds) != 4 || w.Items.Count() != 5 {
		t.Error("what is dead was changed")
	}
}

func TestP26_1NoItems(t *testing.T) {
	w := world()
	set(w, "n", "9", 0)
	for w.Items.Count() < api.MaxItems {
		w.Items.Add(api.Item{})
	}
	for i, verb := range []api.Verb{api.VbTouch, api.VbIncr, api.VbDecr} {
		if a := do(t, w, api.Call{Verb: verb, Key: "n", Exp: 5, By: 1}); a != (api.Answer{Kind: api.AnNoRoom}) || at(w, "n") != (api.Item{Key: "n", Value: "9", Flags: 7, Id: 1, Dies: -1}) || w.Cells.Peek(api.CellIds) != uint64(1+i) {
			t.Error(verb, a)
		}
	}
	if a := do(t, w, api.Call{Verb: api.VbDelete, Key: "n"}); a.Kind != api.AnDeleted {
		t.Error(a)
	}
}

func TestP26Wrong(t *testing.T) {
	w := world()
	good := api.Call{Verb: api.VbDelete, Key: "a"}
	var none *changes.Change
	for i, x := range []*changes.Change{none, {}, changes.NewChange(-1, good), changes.NewChange(64, good), changes.NewChange(0, api.Call{Verb: api.VbDelete}), changes.NewChange(0, api.Call{Verb: api.VbDelete, Key: "a\n"}),
		changes.NewChange(0, api.Call{Verb: api.VbIncr, Key: strings.Repeat("a", 251)}), changes.NewChange(0, api.Call{Key: "a"}), changes.NewChange(0, api.Call{Verb: api.VbSet, Key: "a"}), changes.NewChange(0, api.Call{Verb: api.VbGet, Key: "a"}), changes.NewChange(0, api.Call{Verb: api.VbFlush, Key: "a"}), changes.NewChange(0, api.Call{Verb: 99, Key: "a"})} {
		if a, e, p := x.Got(); !rigs.Idle(w, x) || a != (api.Answer{}) || e != 0 || p != 0 {
			t.Error(i)
		}
	}
	var own worlds.World
	x := changes.NewChange(0, good)
	for range 20 {
		x.Step(&own)
	}
	if a, _, _ := x.Got(); !x.Over() || a.Kind != api.AnNotFound {
		t.Error("a world of no cells", a)
	}
}

func TestP26_3(t *testing.T) {
	w := world()
	w.Cells.Store(api.CellEpoch, epochs.Put(100, 0, 3))
	x := uint64(9)
	for i := range 400 {
		x = x*6364136223846793005 + 1442695040888963407
		n, by := x>>uint(i%64), x<<uint(i%61)|1
		set(w, "n", strconv.FormatUint(n, 10), 50)
		was := at(w, "n")
		a := do(t, w, api.Call{Verb: api.VbIncr, Key: "n", By: by})
		up := at(w, "n")
		if a.Number != n+by || up.Value != strconv.FormatUint(n+by, 10) || up.Flags != 7 || up.Dies != 150 || up.Gen != 3 || up.Id <= was.Id {
			t.Fatal(n, by, a, up)
		}
		less := uint64(0)
		if by <= a.Number {
			less = a.Number - by
		}
		a = do(t, w, api.Call{Verb: api.VbDecr, Key: "n", By: by})
		down := at(w, "n")
		if a.Number != less || down.Value != strconv.FormatUint(less, 10) || down.Id <= up.Id || down.Dies != 150 {
			t.Fatal(n, by, a, down)
		}
		exp := []int64{0, 5, -1, api.Month, api.Month + 1, 1 << 40, math.MinInt64}[i%7]
		a = do(t, w, api.Call{Verb: api.VbTouch, Key: "n", Exp: exp})
		item := at(w, "n")
		if a.Kind != api.AnTouched || item.Value != down.Value || item.Flags != 7 || item.Id != down.Id || epochs.Alive(item, epochs.Put(100, 0, 3)) != (exp >= 0) {
			t.Fatal(exp, a, item)
		}
		count := w.Cells.Peek(api.CellCount)
		a = do(t, w, api.Call{Verb: api.VbDelete, Key: "n"})
		if exp < 0 && (a.Kind != api.AnNotFound || at(w, "n") != item || w.Cells.Peek(api.CellCount) != count) || exp >= 0 && (a.Kind != api.AnDeleted || at(w, "n") != api.Item{} || w.Cells.Peek(api.CellCount) != count-1) {
			t.Fatal(exp, a)
		}
	}
	for _, value := range []string{"", "x", "-1", "1 ", "18446744073709551616", strings.Repeat("0", 21)} {
		set(w, "s", value, 0)
		before, items := rigs.Standing(w), w.Items.Count()
		for _, verb := range []api.Verb{api.VbIncr, api.VbDecr} {
			if a := do(t, w, api.Call{Verb: verb, Key: "s", By: 1}); a != (api.Answer{Kind: api.AnNotNumber}) {
				t.Error(value, a)
			}
		}
		after := rigs.Standing(w)
		if d := rigs.Differ(after[2:], before[2:]...); d != "" || w.Items.Count() != items {
			t.Error(value, d)
		}
	}
}
