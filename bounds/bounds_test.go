package bounds_test

import (
	"bytes"
	"slices"
	"strconv"
	"testing"

	"nestbox/api"
	"nestbox/bounds"
	"nestbox/machines"
	"nestbox/notes"
	"nestbox/rigs"
	"nestbox/rooms"
	"nestbox/runs"
	"nestbox/scripts"
	"nestbox/tickets"
	"nestbox/turns"
	"nestbox/worlds"
)

var plain = worlds.Config{Bits: 2, Budget: 8, Tries: 3, Quantum: 1, Way: 16}

func verbs() map[api.Verb]int {
	return map[api.Verb]int{api.VbNone: 0, api.VbGet: 152, api.VbGets: 152, api.VbSet: 2161, api.VbAdd: 2161, api.VbReplace: 2161, api.VbCas: 2161, api.VbDelete: 925, api.VbTouch: 925, api.VbIncr: 925, api.VbDecr: 925, api.VbFlush: 4, api.VbVersion: 0, api.VbQuit: 0, 14: 0, 255: 0}
}

func TestP40_1(t *testing.T) {
	if bounds.Room(plain) != 210 || bounds.Turn(plain) != 894 || bounds.Evict(plain) != 781 {
		t.Error(bounds.Room(plain), bounds.Turn(plain), bounds.Evict(plain))
	}
	for v, n := range verbs() {
		if got := bounds.Steps(plain, v); got != n {
			t.Error(v, got)
		}
		if bounds.Steps(worlds.Config{}, v) != 0 {
			t.Error(v, "of a config that may not be")
		}
	}
	for _, c := range []worlds.Config{{Bits: 1, Budget: 1, Tries: 0, Quantum: 1, Way: 2}, {Bits: 12, Budget: 65536, Tries: 16, Quantum: 8, Way: 256}, {Bits: 3, Budget: 33, Tries: 5, Quantum: 4, Way: 7}, {Bits: 3, Budget: 32, Tries: 5, Quantum: 4, Way: 7}} {
		room := 13*c.Way + 2
		turn := c.Quantum*(4*(room+12)+3) + 3
		evict := 6*8*max(c.Budget, 4<<c.Bits) + 13
		if bounds.Room(c) != room || bounds.Turn(c) != turn || bounds.Evict(c) != evict || bounds.Steps(c, api.VbGet) != 31*(c.Tries+1)+28 || bounds.Steps(c, api.VbSet) != turn+evict+2*room+66 || bounds.Steps(c, api.VbIncr) != turn+31 || bounds.Steps(c, api.VbFlush) != 4 {
			t.Error(c)
		}
	}
	bad := plain
	bad.Tries = 17
	if bounds.Room(bad) != 0 || bounds.Turn(bad) != 0 || bounds.Evict(bad) != 0 || bounds.Windows(bad, []api.Call{{Verb: api.VbSet}}) != 0 {
		t.Error("of a config that may not be")
	}
}

func TestP40_2(t *testing.T) {
	b := []byte("get a b\r\nversion\r\nset a 0 0 1\r\nx\r\n")
	want := []api.Call{{Verb: api.VbGet, Key: "a"}, {Verb: api.VbGet, Key: "b"}, {Verb: api.VbSet, Key: "a", Value: "x"}}
	before := bytes.Clone(b)
	got := bounds.Calls(b)
	if !slices.Equal(got, want) || !bytes.Equal(b, before) || cap(got) != len(got) || bounds.Windows(plain, got) != 2465 {
		t.Error(got, bounds.Windows(plain, got))
	}
	got = bounds.Calls([]byte("gets a a\njunk\nquit\nset k 1 2 3 noreply\n\r\n\n\r\nset k 0 0 1\nxx\r\nflush_all 7\ncas q 1 -2 0 5\r\n\r\nincr n 9\ntouch n -3\nset z 0 0 2\r\nx"))
	want = []api.Call{{Verb: api.VbGets, Key: "a"}, {Verb: api.VbGets, Key: "a"}, {Verb: api.VbSet, Key: "k", Value: "\r\n\n", Flags: 1, Exp: 2}, {Verb: api.VbFlush, Exp: 7}, {Verb: api.VbCas, Key: "q", Flags: 1, Exp: -2, Id: 5}, {Verb: api.VbIncr, Key: "n", By: 9}, {Verb: api.VbTouch, Key: "n", Exp: -3}}
	if !slices.Equal(got, want) {
		t.Error(got)
	}
	if len(bounds.Calls(nil)) != 0 || len(bounds.Calls([]byte("set a 0 0 5000\r\nget a\r\n"))) != 0 {
		t.Error("of nothing")
	}
}

func TestP40_3(t *testing.T) {
	if bounds.Windows(plain, nil) != 0 {
		t.Error("of no calls")
	}
	all, l := 0, []api.Call(nil)
	for v, n := range verbs() {
		all += n
		l = append(l, api.Call{Verb: v})
	}
	if n := bounds.Windows(plain, l); n != all {
		t.Error(n)
	}
}

func TestP40_6(t *testing.T) {
	c := plain
	for range 300 {
		last := []int{bounds.Room(c), bounds.Turn(c), bounds.Evict(c), bounds.Steps(c, api.VbGet), bounds.Steps(c, api.VbSet), bounds.Steps(c, api.VbDelete), bounds.Steps(c, api.VbFlush)}
		for i, more := range []worlds.Config{{Way: 1}, {Quantum: 1}, {Budget: 9}, {Tries: 1}} {
			d := worlds.Config{Bits: c.Bits, Budget: c.Budget + more.Budget, Tries: c.Tries + more.Tries, Quantum: c.Quantum + more.Quantum, Way: c.Way + more.Way}
			if !worlds.May(d) {
				continue
			}
			now := []int{bounds.Room(d), bounds.Turn(d), bounds.Evict(d), bounds.Steps(d, api.VbGet), bounds.Steps(d, api.VbSet), bounds.Steps(d, api.VbDelete), bounds.Steps(d, api.VbFlush)}
			for k := range now {
				if now[k] < last[k] {
					t.Fatal(d, k, now[k])
				}
			}
			if i == last[0]%4 {
				c = d
			}
		}
	}
	b := []byte("get a b\r\nset k 0 0 3\r\nx\r\n\r\njunk\ndelete k\n")
	for cut := range b {
		l := append(bounds.Calls(b[:cut]), bounds.Calls(b[cut:])...)
		if bounds.Windows(plain, l[:len(l)/2]) > bounds.Windows(plain, l) {
			t.Fatal(cut)
		}
	}
}

// rule of numbers that scripts are made by.
type rule uint64

func (r *rule) next() uint64 {
	*r = *r*6364136223846793005 + 1442695040888963407
	return uint64(*r)
}

func line(x uint64) string {
	key := "k" + strconv.Itoa(int(x>>8%50))
	n := strconv.Itoa(int(x >> 20 % 30))
	return []string{"set " + key + " 1 0 2\r\nab\r\n", "set " + key + " 0 " + n + " 1\r\n7\r\n", "add " + key + " 0 0 1\r\n7\r\n", "replace " + key + " 0 0 1\r\n7\r\n", "cas " + key + " 0 0 1 " + n + "\r\n7\r\n", "get " + key + " k3\r\n", "incr " + key + " 4\r\n",
		"delete " + key + "\r\n", "junk\r\n", "flush_all " + n + "\r\n", "touch " + key + " 9\r\n", "set " + key + " 0 0 0\r\n\r\n"}[x>>40%12]
}

func configs(seed uint64) worlds.Config {
	return worlds.Config{Bits: 1 + int(seed%3), Budget: 2 + int(seed*13%60), Tries: int(seed % 4), Quantum: 1 + int(seed%3), Way: 2 + int(seed%9)}
}

func TestP40_4(t *testing.T) {
	for seed := range uint64(80) {
		c := configs(seed)
		m, _ := machines.New(machines.Config{World: c, Conns: 1 + int(seed%6)})
		r := rule(seed)
		took := make([]int, m.Conns())
		for range 4000 {
			x := r.next()
			i := int(x >> 33 % uint64(m.Conns()))
			switch {
			case x>>58 == 0:
				m.Do(scripts.Cmd{Kind: scripts.CmTick})
			case x>>58 < 4:
				m.Do(scripts.Cmd{Kind: scripts.CmFeed, Conn: i, Bytes: []byte(line(r.next()))})
			default:
				waits := tickets.Waits(m.World(), i)
				d := m.Do(scripts.Cmd{Kind: scripts.CmPick, Conn: i})
				if !waits {
					took[i] += d.Steps
				}
				if !d.Over {
					continue
				}
				h := m.Hist().Calls
				if most := bounds.Steps(c, h[len(h)-1].Call.Verb); took[i] > most {
					t.Fatal(seed, h[len(h)-1], took[i], most)
				}
				took[i] = 0
			}
		}
	}
}

// The bounds of parts, in worlds that are full of what may stand there.
func TestP40_4Parts(t *testing.T) {
	for seed := range uint64(100) {
		c := configs(seed)
		w, _ := worlds.New(c)
		r := rule(seed)
		for b := range 2 << c.Bits {
			for slot := range 4 {
				if x := r.next(); x>>60 > 0 {
					w.Items.Add(api.Item{Key: strconv.FormatUint(x, 10)})
					if b < 1<<c.Bits {
						rigs.Set(w, rigs.Spot(c.Bits, b, slot), int(x>>40%255)+1, w.Items.Count())
					}
					rigs.Set(w, rigs.Spot(c.Bits+1, b, slot), int(x>>30%255)+1, w.Items.Count())
				}
			}
		}
		if n := len(rigs.Run(w, rooms.NewRoom(c.Bits, r.next()), 1<<20)); n > bounds.Room(c) {
			t.Fatal(seed, "room", n)
		}
		w.Cells.Store(api.CellTable, uint64(c.Bits|(c.Bits+1)<<8))
		if n := len(rigs.Run(w, turns.NewTurn(), 1<<20)); n > bounds.Turn(c) {
			t.Fatal(seed, "turn", n)
		}
	}
}

func TestP40_5(t *testing.T) {
	for seed := range uint64(60) {
		c := configs(seed)
		m, _ := machines.New(machines.Config{World: c, Conns: 1 + int(seed%7)})
		r := rule(seed + 40)
		fed := make([][]byte, m.Conns())
		for i := range fed {
			for range 1 + r.next()>>40%30 {
				text := []byte(line(r.next()))
				fed[i] = append(fed[i], text...)
				m.Do(scripts.Cmd{Kind: scripts.CmFeed, Conn: i, Bytes: text})
				if seed%2 == 1 {
					x := r.next()
					runs.Window(m, []byte{byte(x >> 20), byte(x >> 30), byte(x >> 40)}[:x>>60%4])
				}
			}
		}
		most := 0
		for _, b := range fed {
			most += bounds.Windows(c, bounds.Calls(b))
		}
		windows := 0
		for windows <= most {
			if _, all := runs.Finish(m, 0); all {
				break
			}
			windows++
			x := r.next()
			runs.Window(m, []byte{byte(x >> 20), byte(x >> 30)}[:x>>60%3])
		}
		if n, all := runs.Finish(m, 0); n != 0 || !all || windows > most {
			t.Fatal(seed, windows, most)
		}
	}
}

// P0.5: a get tries as often as the config says, then takes the lock; one that nobody changes anything beside does not try again.
func TestP0_5(t *testing.T) {
	retried := 0
	for seed := range uint64(60) {
		c := configs(seed)
		m, _ := machines.New(machines.Config{World: c, Conns: 4})
		w := m.World()
		r := rule(seed + 11)
		tries := make([]int, 4)
		seen := 0
		for range 4000 {
			x := r.next()
			i := int(x >> 33 % 4)
			if x>>58 < 3 {
				text := line(r.next())
				if i > 1 {
					text = "get k1 k2 k3\r\n"
				}
				m.Do(scripts.Cmd{Kind: scripts.CmFeed, Conn: i, Bytes: []byte(text)})
				continue
			}
			d := m.Do(scripts.Cmd{Kind: scripts.CmPick, Conn: i})
			for _, n := range w.Notes.Since(seen) {
				seen++
				switch n.Kind {
				case notes.NtRetry:
					tries[i]++
					retried++
				case notes.NtLocked:
					if tries[i] != c.Tries {
						t.Fatal(seed, "locked, behind tries", tries[i])
					}
				}
			}
			if tries[i] > c.Tries {
				t.Fatal(seed, tries[i])
			}
			if d.Over {
				tries[i] = 0
			}
		}
		runs.Finish(m, 1<<20)
		before := w.Notes.Count()
		for i := range 4 {
			m.Do(scripts.Cmd{Kind: scripts.CmFeed, Conn: i, Bytes: []byte("get k1 k9 k20\r\n")})
		}
		if _, all := runs.Finish(m, 1000); !all || w.Notes.Count() != before {
			t.Fatal(seed, "it tries again")
		}
	}
	if retried < 100 {
		t.Error(retried)
	}
}
