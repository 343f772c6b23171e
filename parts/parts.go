// Package parts has what operations of several layers are made of: the face of an operation, one access, and the drop of an item.
package parts

import (
	"nestbox/api"
	"nestbox/notes"
	"nestbox/puts"
	"nestbox/stripes"
	"nestbox/worlds"
)

// Part of an operation.
type Part interface {
	Step(w *worlds.World) bool
	Over() bool
}

// Once is one access, and what is local behind it.
type Once struct {
	do func(w *worlds.World)
}

// NewOnce: one that begins.
func NewOnce(do func(w *worlds.World)) *Once {
	return &Once{do: do}
}

// Step of it.
func (x *Once) Step(w *worlds.World) bool {
	if !x.Over() && w != nil {
		do := x.do
		x.do = nil
		do(w)
	}
	return x.Over()
}

// Over: is it?
func (x *Once) Over() bool {
	return x == nil || x.do == nil
}

// Drop of an item out of its slot, between marks; it is noted when it is gone.
type Drop struct {
	ref  int
	spot api.Spot
	out  *puts.Out
	row  []Part
}

// NewDrop: one that begins.
func NewDrop(ref int, s api.Spot) *Drop {
	out := puts.NewOut(s)
	x := &Drop{ref: ref, spot: s, out: out}
	x.row = []Part{stripes.NewMark(s.Place), out, stripes.NewMark(s.Place)}
	x.skip()
	return x
}

// skip what is over.
func (x *Drop) skip() {
	for len(x.row) > 0 && x.row[0].Over() {
		x.row = x.row[1:]
	}
}

// Step of it.
func (x *Drop) Step(w *worlds.World) bool {
	if x.Over() || w == nil {
		return x.Over()
	}
	was := x.out.Gone()
	x.row[0].Step(w)
	if x.out.Gone() && !was {
		w.Note(notes.NtEvict, x.ref, x.spot, 0)
	}
	x.skip()
	return x.Over()
}

// Over: is it?
func (x *Drop) Over() bool {
	return x == nil || len(x.row) == 0
}
