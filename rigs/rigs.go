// Package rigs sets worlds up by hand, and tells operations access by access: the layers' tests stand on it.
package rigs

import (
	"slices"
	"strconv"
	"strings"

	"nestbox/api"
	"nestbox/fnvs"
	"nestbox/notes"
	"nestbox/places"
	"nestbox/tagwords"
	"nestbox/worlds"
)

// Op is an operation.
type Op interface {
	Step(w *worlds.World) bool
	Over() bool
}

// World of a table of some bits, and a budget of as many items as it has slots.
func World(bits int) *worlds.World {
	w, _ := worlds.New(worlds.Config{Bits: bits, Budget: api.Slots << bits, Tries: 3, Quantum: 1, Way: 16})
	return w
}

// Spot of a table of some bits.
func Spot(bits, bucket, slot int) api.Spot {
	return api.Spot{Place: api.Place{Bits: bits, Bucket: bucket}, Slot: slot}
}

// Set a slot's tag and its item's word, and nothing else.
func Set(w *worlds.World, s api.Spot, tag, ref int) {
	at := places.Tags(s.Place)
	w.Cells.Store(at, tagwords.With(w.Cells.Peek(at), s.Slot, tag))
	w.Cells.Store(places.Item(s), uint64(ref))
}

// Seat a record of a key in a slot, under its tag; its number.
func Seat(w *worlds.World, s api.Spot, key string) int {
	ref, _ := w.Items.Add(api.Item{Key: key, Dies: -1})
	Set(w, s, fnvs.Tag(fnvs.Hash(key)), ref)
	w.Cells.Add(api.CellCount, 1)
	return ref
}

// Key whose hash is so: the first one of k0, k1, k2 and so on.
func Key(so func(h uint64) bool) string {
	for i := range 1 << 20 {
		key := "k" + strconv.Itoa(i)
		if so(fnvs.Hash(key)) {
			return key
		}
	}
	return ""
}

// Homed tells of a hash whether its buckets, in a table of some bits, are these two.
func Homed(bits, a, b int) func(h uint64) bool {
	return func(h uint64) bool {
		bucket := fnvs.Bucket(h, bits)
		return bucket == a && fnvs.Other(bucket, fnvs.Tag(h), bits) == b
	}
}

// Run an operation to its end, but for at most some steps: its accesses.
func Run(w *worlds.World, x Op, most int) []string {
	var told []string
	for range most {
		if x.Over() {
			break
		}
		before := w.Steps()
		over := x.Step(w)
		switch {
		case w.Steps() != before+1:
			told = append(told, strconv.Itoa(w.Steps()-before)+" accesses")
		case over != x.Over():
			told = append(told, "over or not")
		default:
			told = append(told, Tell(w.Cells.Last()))
		}
	}
	return told
}

// Idle: is a step of it, which is over, true, and no access?
func Idle(w *worlds.World, x Op) bool {
	before := w.Steps()
	return x.Over() && x.Step(w) && x.Step(nil) && w.Steps() == before
}

// Tell an access.
func Tell(x api.Access) string {
	was, is := strconv.FormatUint(x.Was, 10), strconv.FormatUint(x.Is, 10)
	switch x.Kind {
	case api.AcLoad:
		return "load " + Name(x.Addr) + " " + was
	case api.AcStore:
		return "store " + Name(x.Addr) + " " + was + " " + is
	case api.AcCAS:
		return "cas " + Name(x.Addr) + " " + was + " " + is
	case api.AcAdd:
		return "add " + Name(x.Addr) + " " + was + " " + is
	}
	return "?"
}

// Name of an address.
func Name(a api.Addr) string {
	switch {
	case a < api.Addr(len(shared())):
		return shared()[a]
	case a >= api.CellStripe && a < api.CellStripe+api.Stripes:
		return "v" + number(a-api.CellStripe)
	case a >= api.CellRef:
		return "r" + number(a-api.CellRef)
	}
	for bits := api.MinBits; bits <= api.MaxBits; bits++ {
		from := places.Tags(api.Place{Bits: bits})
		if a < from || a >= from+api.Addr(8*fnvs.Size(bits)) {
			continue
		}
		bucket, part := number((a-from)/8), (a-from)%8
		name := strconv.Itoa(bits) + "." + bucket
		if part == 0 {
			return "t" + name
		}
		return "i" + name + "." + number(part-1)
	}
	return "a" + number(a)
}

func shared() []string {
	return []string{"next", "serving", "table", "cursor", "hand", "sweep", "count", "ids", "epoch"}
}

func number(a api.Addr) string {
	return strconv.FormatUint(uint64(a), 10)
}

// Notes of a world from a place on: step, thread, name, item, spot, value.
func Notes(w *worlds.World, from int) []string {
	var told []string
	for _, n := range w.Notes.Since(from) {
		s := n.Spot
		row := notes.Name(n.Kind)
		for _, i := range []int{n.Step, n.Thread, n.Ref, s.Bits, s.Bucket, s.Slot, n.Value} {
			row += " " + strconv.Itoa(i)
		}
		told = append(told, row)
	}
	return told
}

// Differ: the first line in which two lists differ; nothing, if they are the same.
func Differ(got []string, want ...string) string {
	if slices.Equal(got, want) {
		return ""
	}
	for i, line := range got {
		if i >= len(want) || line != want[i] {
			return "line " + strconv.Itoa(i+1) + ": " + line + " of " + strings.Join(got, "; ")
		}
	}
	return "too short: " + strings.Join(got, "; ")
}

// Standing: all words that are not 0, as texts, without versions.
func Standing(w *worlds.World) []string {
	var told []string
	for _, x := range w.Cells.Words() {
		if name := Name(x.Addr); name[0] != 'v' {
			told = append(told, name+" "+strconv.FormatUint(x.Value, 10))
		}
	}
	return told
}

// Even: are all versions?
func Even(w *worlds.World) bool {
	for i := range api.Addr(api.Stripes) {
		if w.Cells.Peek(api.CellStripe+i)&1 == 1 {
			return false
		}
	}
	return true
}
