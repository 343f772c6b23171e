package parts_test

import (
	"testing"

	"nestbox/api"
	"nestbox/parts"
	"nestbox/rigs"
	"nestbox/worlds"
)

func TestOnce(t *testing.T) {
	w := rigs.World(2)
	x := parts.NewOnce(func(w *worlds.World) { w.Cells.Load(api.CellTable) })
	if x.Step(nil) || x.Over() {
		t.Error("a step in no world")
	}
	if d := rigs.Differ(rigs.Run(w, x, 9), "load table 2"); d != "" || !rigs.Idle(w, x) {
		t.Error(d)
	}
	var none *parts.Once
	if !rigs.Idle(w, none) || !rigs.Idle(w, &parts.Once{}) || !rigs.Idle(w, parts.NewOnce(nil)) {
		t.Error("none is not over")
	}
}

func TestDrop(t *testing.T) {
	w := rigs.World(2)
	s := rigs.Spot(2, 1, 2)
	rigs.Set(w, s, 7, 5)
	from := w.Steps()
	x := parts.NewDrop(5, s)
	if d := rigs.Differ(rigs.Run(w, x, 9), "add v63 0 1", "load t2.1 458752", "store t2.1 458752 0", "store i2.1.2 5 0", "add v63 1 2"); d != "" || !rigs.Idle(w, x) {
		t.Error(d)
	}
	n := w.Notes.All()
	if len(n) != 1 || n[0].Step != from+3 || n[0].Ref != 5 || n[0].Spot != s || n[0].Value != 0 {
		t.Error(n)
	}
	var none *parts.Drop
	if !rigs.Idle(w, none) || !rigs.Idle(w, &parts.Drop{}) || !rigs.Idle(w, parts.NewDrop(5, api.Spot{})) {
		t.Error("none is not over")
	}
}
