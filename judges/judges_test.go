package judges_test

import (
	"slices"
	"strconv"
	"testing"

	"nestbox/api"
	"nestbox/cells"
	"nestbox/fnvs"
	"nestbox/judges"
	"nestbox/machines"
	"nestbox/places"
	"nestbox/rigs"
	"nestbox/scripts"
	"nestbox/worlds"
)

var plain = worlds.Config{Bits: 2, Budget: 8, Tries: 3, Quantum: 1, Way: 16}

func machine(t *testing.T, c worlds.Config, n int) *machines.Machine {
	t.Helper()
	m, e := machines.New(machines.Config{World: c, Conns: n})
	if e != api.OK {
		t.Fatal(e)
	}
	return m
}

func feed(conn int, text string) scripts.Cmd {
	return scripts.Cmd{Kind: scripts.CmFeed, Conn: conn, Bytes: []byte(text)}
}

func pick(conn int) scripts.Cmd {
	return scripts.Cmd{Kind: scripts.CmPick, Conn: conn}
}

// through: all that is under way at the machine goes to its end, turn by turn.
func through(m *machines.Machine) {
	for left := true; left; {
		left = false
		for i := range m.Conns() {
			left = m.Do(pick(i)).Conn >= 0 || left
		}
	}
}

func at(k judges.Kind, s api.Spot, ref int) judges.Finding {
	return judges.Finding{Kind: k, Spot: s, Ref: ref}
}

func same(t *testing.T, got []judges.Finding, want ...judges.Finding) {
	t.Helper()
	if !slices.Equal(got, want) || cap(got) != len(got) {
		t.Errorf("%v, not %v", got, want)
	}
}

func TestP38Example(t *testing.T) {
	m := machine(t, plain, 1)
	same(t, judges.Judge(m))
	m.World().Cells.Store(places.Tags(api.Place{Bits: 2, Bucket: 1}), 7)
	same(t, judges.Judge(m), at(judges.JdHalf, rigs.Spot(2, 1, 0), 0))
	same(t, judges.Tables(nil))
	same(t, judges.Rest(nil))
	same(t, judges.Judge(nil))
	same(t, judges.Judge(&machines.Machine{}))
	same(t, judges.Tables(&worlds.World{}))
}

func TestP38_1(t *testing.T) {
	key := rigs.Key(rigs.Homed(2, 1, 2))
	tag := fnvs.Tag(fnvs.Hash(key))
	v := places.Version(api.Place{Bits: 2, Bucket: 1})
	for i, c := range []struct {
		set  func(w *worlds.World)
		want []judges.Finding
		calm bool // is it found while the version is odd, too?
	}{
		{func(w *worlds.World) { rigs.Seat(w, rigs.Spot(2, 1, 3), key) }, nil, false},
		{func(w *worlds.World) { rigs.Seat(w, rigs.Spot(2, 2, 3), key) }, nil, false},
		{func(w *worlds.World) { w.Cells.Store(places.Item(rigs.Spot(2, 1, 2)), 9) }, []judges.Finding{at(judges.JdHalf, rigs.Spot(2, 1, 2), 9)}, false},
		{func(w *worlds.World) { w.Cells.Store(places.Item(rigs.Spot(2, 1, 2)), 1<<64-1) }, []judges.Finding{at(judges.JdHalf, rigs.Spot(2, 1, 2), -1)}, false},
		{func(w *worlds.World) { rigs.Set(w, rigs.Spot(2, 1, 0), 5, 9) }, []judges.Finding{at(judges.JdItem, rigs.Spot(2, 1, 0), 9)}, false},
		{func(w *worlds.World) {
			rigs.Seat(w, rigs.Spot(2, 1, 0), key)
			rigs.Set(w, rigs.Spot(2, 1, 0), tag%255+1, 1)
		}, []judges.Finding{at(judges.JdTag, rigs.Spot(2, 1, 0), 1)}, false},
		{func(w *worlds.World) { rigs.Seat(w, rigs.Spot(2, 1, 0), rigs.Key(rigs.Homed(2, 0, 3))) }, []judges.Finding{at(judges.JdPlace, rigs.Spot(2, 1, 0), 1)}, false},
		{func(w *worlds.World) {
			rigs.Seat(w, rigs.Spot(2, 1, 0), key)
			rigs.Seat(w, rigs.Spot(2, 1, 2), key)
			rigs.Seat(w, rigs.Spot(2, 1, 3), key)
		}, []judges.Finding{at(judges.JdTwice, rigs.Spot(2, 1, 2), 2), at(judges.JdTwice, rigs.Spot(2, 1, 3), 3)}, true},
		{func(w *worlds.World) {
			rigs.Seat(w, rigs.Spot(2, 1, 0), key)
			w.Cells.Store(api.CellTable, 0x0302)
			w.Cells.Store(api.CellCursor, 2)
		}, []judges.Finding{at(judges.JdBehind, rigs.Spot(2, 1, 0), 1)}, false},
		{func(w *worlds.World) {
			rigs.Seat(w, rigs.Spot(2, 1, 0), key)
			w.Cells.Store(api.CellTable, 0x0302)
			w.Cells.Store(api.CellCursor, 1)
		}, nil, false},
		{func(w *worlds.World) {
			rigs.Seat(w, rigs.Spot(2, 1, 0), key)
			w.Cells.Store(api.CellCursor, 4)
		}, nil, false},
		{func(w *worlds.World) {
			for _, a := range []api.Addr{4096, 4095, places.Tags(api.Place{Bits: 2}) + 5, places.Tags(api.Place{Bits: 1}), places.Item(rigs.Spot(3, 1, 1)), 1<<32 - 1, 1 << 32, 1<<32 + 5, 200} {
				w.Cells.Store(a, 1)
			}
		}, []judges.Finding{{Kind: judges.JdWord, Value: 4096}, {Kind: judges.JdWord, Value: 4112}, {Kind: judges.JdWord, Value: 4128 + 5}, {Kind: judges.JdWord, Value: 4160 + 8 + 2}, {Kind: judges.JdWord, Value: 1<<32 - 1}}, true},
	} {
		w := rigs.World(2)
		c.set(w)
		got := judges.Tables(w)
		if !slices.Equal(got, c.want) || cap(got) != len(got) {
			t.Errorf("%d: %v", i, got)
		}
		w.Cells.Store(v, 1)
		if got := judges.Tables(w); !slices.Equal(got, c.want) && c.calm || len(got) > 0 && !c.calm {
			t.Errorf("%d: not calm: %v", i, got)
		}
		if n := w.Steps(); len(judges.Tables(w)) >= 0 && w.Steps() != n {
			t.Error("a look is an access")
		}
	}
	// of each address, in one table and in two
	for _, word := range []uint64{1, 2, 0x0302, 12, 0x0c0b} {
		w := worlds.World{Cells: cells.New(cells.Word{Addr: api.CellTable, Value: word})}
		owned := map[api.Addr]int{}
		for n := range places.Spots(word) {
			s := places.At(word, n)
			owned[places.Tags(s.Place)]++
			owned[places.Item(s)]++
		}
		var want []judges.Finding
		for a := api.Addr(4096); a < 4096+8*8192+50; a += 1 + a%3*api.Addr(word>>3) {
			w.Cells.Store(a, 1<<40)
			if owned[a] == 0 {
				want = append(want, judges.Finding{Kind: judges.JdWord, Value: int(a)})
			}
		}
		found := slices.DeleteFunc(judges.Tables(&w), func(f judges.Finding) bool { return f.Kind != judges.JdWord })
		if !slices.Equal(found, want) {
			t.Errorf("%x: %d words, not %d", word, len(found), len(want))
		}
	}
	// the first one of a spot alone, and of a spot ahead of it what it has counts, whatever is found there
	w := rigs.World(2)
	other := rigs.Key(rigs.Homed(2, 0, 3))
	rigs.Seat(w, rigs.Spot(2, 1, 0), other)
	rigs.Seat(w, rigs.Spot(2, 3, 0), other)
	rigs.Seat(w, rigs.Spot(2, 2, 0), other)
	same(t, judges.Tables(w), at(judges.JdPlace, rigs.Spot(2, 1, 0), 1), at(judges.JdPlace, rigs.Spot(2, 2, 0), 3), at(judges.JdTwice, rigs.Spot(2, 3, 0), 2))
}

// What has a tag alone, an item alone, or a number of no record, has no item.
func TestP38_1Has(t *testing.T) {
	key := rigs.Key(rigs.Homed(2, 1, 2))
	tag := fnvs.Tag(fnvs.Hash(key))
	m := machine(t, plain, 1)
	w := m.World()
	rigs.Seat(w, rigs.Spot(2, 1, 0), key)
	rigs.Set(w, rigs.Spot(2, 1, 0), 0, 1)
	rigs.Set(w, rigs.Spot(2, 1, 1), tag, 0)
	rigs.Set(w, rigs.Spot(2, 1, 2), tag, 9)
	rigs.Set(w, rigs.Spot(2, 1, 3), tag, 1)
	same(t, judges.Tables(w), at(judges.JdHalf, rigs.Spot(2, 1, 0), 1), at(judges.JdHalf, rigs.Spot(2, 1, 1), 0), at(judges.JdItem, rigs.Spot(2, 1, 2), 9))
	same(t, judges.Rest(m), at(judges.JdMap, rigs.Spot(2, 1, 3), 1), judges.Finding{Kind: judges.JdMap})
	rigs.Set(w, rigs.Spot(2, 2, 0), 0, 1)
	rigs.Set(w, rigs.Spot(2, 2, 1), tag, 1)
	w.Cells.Store(places.Version(api.Place{Bits: 2, Bucket: 2}), 1)
	same(t, judges.Tables(w)[3:], at(judges.JdTwice, rigs.Spot(2, 2, 1), 1))
}

// stored: a machine with two keys.
func stored(t *testing.T) *machines.Machine {
	m := machine(t, plain, 1)
	m.Do(feed(0, "set a 0 0 1\r\nx\r\nset b 0 0 1\r\ny\r\n"))
	through(m)
	same(t, judges.Judge(m))
	return m
}

// spotOf an item's number.
func spotOf(w *worlds.World, ref int) api.Spot {
	for n := range places.Spots(2) {
		if s := places.At(2, n); w.Cells.Peek(places.Item(s)) == uint64(ref) {
			return s
		}
	}
	return api.Spot{}
}

func TestP38_2(t *testing.T) {
	one := func(k judges.Kind, value int) judges.Finding { return judges.Finding{Kind: k, Value: value} }
	for i, c := range []struct {
		set  func(w *worlds.World)
		want []judges.Finding
	}{
		{func(w *worlds.World) {
			w.Cells.Store(api.CellStripe+5, 1)
			w.Cells.Store(api.CellStripe+63, 7)
		}, []judges.Finding{one(judges.JdOdd, 5)}},
		{func(w *worlds.World) { w.Cells.Store(api.CellStripe+63, 7) }, []judges.Finding{one(judges.JdOdd, 63)}},
		{func(w *worlds.World) { w.Cells.Store(api.CellStripe+64, 7) }, nil},
		{func(w *worlds.World) { w.Cells.Store(api.CellSweep, 2) }, []judges.Finding{one(judges.JdSweep, 0)}},
		{func(w *worlds.World) { w.Cells.Store(api.CellCount, 1) }, []judges.Finding{one(judges.JdCount, 2)}},
		{func(w *worlds.World) { w.Config.Budget = 1 }, []judges.Finding{one(judges.JdBudget, 2)}},
		{func(w *worlds.World) { w.Cells.Store(api.CellIds, 3) }, []judges.Finding{one(judges.JdIds, 0)}},
		{func(w *worlds.World) { w.Note(1, 2, api.Spot{}, 0) }, []judges.Finding{at(judges.JdMap, api.Spot{}, 2), one(judges.JdMap, 1)}},
		{func(w *worlds.World) { w.Note(1, 77, api.Spot{}, 0) }, []judges.Finding{one(judges.JdLin, 2)}},
		{func(w *worlds.World) {
			ref, _ := w.Items.Add(api.Item{Key: "a", Value: "z", Id: 1, Dies: -1})
			w.Cells.Store(places.Item(spotOf(w, 1)), uint64(ref))
		}, []judges.Finding{at(judges.JdMap, rigs.Spot(0, 0, 0), 3)}},
		{func(w *worlds.World) { rigs.Set(w, spotOf(w, 1), 0, 0) }, []judges.Finding{one(judges.JdCount, 1), one(judges.JdMap, 2)}},
		{func(w *worlds.World) {
			w.Cells.Store(api.CellSweep, 2)
			w.Cells.Store(api.CellStripe, 1)
			w.Config.Budget = 1
			w.Cells.Store(api.CellCount, 3)
			w.Cells.Store(api.CellIds, 9)
			w.Note(1, 77, api.Spot{}, 0)
			w.Items.Add(api.Item{})
		}, []judges.Finding{one(judges.JdOdd, 0), one(judges.JdSweep, 0), one(judges.JdCount, 2), one(judges.JdBudget, 2), one(judges.JdLin, 2), one(judges.JdIds, 0)}},
	} {
		m := stored(t)
		w := m.World()
		first, second := spotOf(w, 1), spotOf(w, 2)
		c.set(w)
		want := slices.Clone(c.want)
		for k := range want {
			switch want[k].Ref { // 3 is put in 1's place
			case 2:
				want[k].Spot = second
			case 3:
				want[k].Spot = first
			}
		}
		got := judges.Rest(m)
		if !slices.Equal(got, want) || cap(got) != len(got) {
			t.Errorf("%d: %v, not %v", i, got, want)
		}
		if all := judges.Judge(m); !slices.Equal(all, append(judges.Tables(w), got...)) || cap(all) != len(all) {
			t.Errorf("%d: %v", i, all)
		}
		w.Holder = 0
		same(t, judges.Rest(m))
	}
}

func TestP38_3(t *testing.T) {
	grows, evicts, locked := 0, 0, 0
	for seed := range uint64(60) {
		c := worlds.Config{Bits: 1 + int(seed%3), Budget: 2 + int(seed*7%30), Tries: int(seed % 4), Quantum: 1 + int(seed%2), Way: 2 + int(seed%11)}
		m := machine(t, c, 1+int(seed%6))
		x := seed
		for n := range 2500 {
			x = x*6364136223846793005 + 1442695040888963407
			i := int(x >> 33 % uint64(m.Conns()))
			switch {
			case x>>58 == 0:
				m.Do(scripts.Cmd{Kind: scripts.CmTick})
			case x>>58 < 4:
				m.Do(feed(i, line(x)))
			default:
				m.Do(pick(i))
			}
			if found := judges.Tables(m.World()); len(found) > 0 {
				t.Fatal(seed, n, found)
			}
			if n%5 == 0 || n > 2400 {
				if found := judges.Rest(m); len(found) > 0 {
					t.Fatal(seed, n, found)
				}
			}
		}
		through(m)
		same(t, judges.Judge(m))
		for _, row := range rigs.Notes(m.World(), 0) {
			switch row[:4] {
			case "grow":
				grows++
			case "evic":
				evicts++
			case "lock":
				locked++
			}
		}
	}
	if grows < 10 || evicts < 50 || locked < 10 {
		t.Error(grows, evicts, locked)
	}
}

// line of a command over some keys, as a number tells it.
func line(x uint64) string {
	key := "k" + strconv.Itoa(int(x>>8%40))
	n := strconv.Itoa(int(x >> 20 % 30))
	switch x >> 40 % 16 {
	case 0, 1, 2, 3, 4, 5:
		return "set " + key + " 1 " + n + " " + strconv.Itoa(len(n)) + "\r\n" + n + "\r\n"
	case 6:
		return "add " + key + " 2 0 1\r\n5\r\n"
	case 7:
		return "replace " + key + " 3 0 1\r\n6\r\n"
	case 8:
		return "cas " + key + " 4 0 1 " + n + "\r\n7\r\n"
	case 9:
		return "delete " + key + "\r\n"
	case 10:
		return "touch " + key + " " + n + " noreply\r\n"
	case 11:
		return "incr " + key + " " + n + "\r\n"
	case 12:
		return []string{"flush_all\r\n", "flush_all 3\r\n", "version\r\n", "decr " + key + " 3\r\n"}[x>>50%4]
	}
	return "gets " + key + " k" + n + "\r\n"
}
