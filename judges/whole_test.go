package judges_test

import (
	"slices"
	"testing"

	"nestbox/api"
	"nestbox/conns"
	"nestbox/hists"
	"nestbox/lins"
	"nestbox/machines"
	"nestbox/maps"
	"nestbox/notes"
	"nestbox/places"
	"nestbox/scripts"
	"nestbox/worlds"
)

// rule of numbers that scripts are made by.
type rule uint64

func (r *rule) next() uint64 {
	*r = *r*6364136223846793005 + 1442695040888963407
	return uint64(*r)
}

// drive a machine by a rule, with an eye on each command; what each connection was fed.
func drive(m *machines.Machine, r *rule, commands int, line func(x uint64) string, eye func(d machines.Did)) []string {
	fed := make([]string, m.Conns())
	for range commands {
		x := r.next()
		i := int(x >> 33 % uint64(m.Conns()))
		command := pick(i)
		switch {
		case x>>58 == 0:
			command = scripts.Cmd{Kind: scripts.CmTick}
		case x>>58 < 5:
			text := line(r.next())
			fed[i] += text
			command = feed(i, text)
		}
		eye(m.Do(command))
	}
	through(m)
	eye(machines.Did{Conn: -1})
	return fed
}

func configs(seed uint64) worlds.Config {
	return worlds.Config{Bits: 1 + int(seed%3), Budget: 2 + int(seed*11%35), Tries: int(seed % 4), Quantum: 1 + int(seed%3), Way: 2 + int(seed%9)}
}

func writes(v api.Verb) bool {
	switch v {
	case api.VbGet, api.VbGets, api.VbFlush:
		return false
	}
	return true
}

func TestP0_1(t *testing.T) {
	dropped := 0
	for seed := range uint64(60) {
		m := machine(t, configs(seed), 2+int(seed%5))
		r := rule(seed)
		rests := 0
		drive(m, &r, 1500, line, func(machines.Did) {
			rests++
			if m.World().Holder != -1 || rests%20 > 0 {
				return
			}
			h := m.Hist()
			a, b := lins.Late(h)
			if lins.Lin(h) != -1 || a != -1 || b != -1 {
				t.Fatal(seed, lins.Lin(h), a, b)
			}
		})
		h := m.Hist()
		for i, n := range m.World().Notes.Of(notes.NtEvict) {
			within := false
			for _, c := range hists.Of(h, n.Thread) {
				within = within || c.From < n.Step && n.Step <= c.To && writes(c.Call.Verb)
			}
			if !within || h.Drops[i].Step != n.Step {
				t.Fatal(seed, n)
			}
			dropped++
		}
	}
	if dropped < 100 {
		t.Error(dropped)
	}
}

// exactly: is a way that is not found followed by a growth each time?
func exactly(w *worlds.World) bool {
	all := w.Notes.All()
	for i, n := range all {
		if n.Kind != notes.NtFull {
			continue
		}
		next := notes.NtNone
		for _, x := range all[i+1:] {
			if x.Thread == n.Thread && x.Kind != notes.NtRetry {
				next = x.Kind
				break
			}
		}
		if next != notes.NtGrow {
			return false
		}
	}
	return true
}

func TestP0_2(t *testing.T) {
	grown, hopped := 0, 0
	for seed := range uint64(80) {
		c := worlds.Config{Bits: 1, Budget: 40 + int(seed), Tries: int(seed % 4), Quantum: 1 + int(seed%8), Way: 4 + int(seed%40)}
		m := machine(t, c, 1+int(seed%4))
		r := rule(seed + 500)
		drive(m, &r, 6000, line, func(machines.Did) {})
		w := m.World()
		if !exactly(w) {
			continue
		}
		grown += len(w.Notes.Of(notes.NtGrow))
		for _, x := range w.Cells.Words() {
			if x.Addr >= api.CellStripe && x.Addr < api.CellStripe+api.Stripes {
				hopped += int(x.Value)
			}
		}
		h := m.Hist()
		if len(h.Drops) != 0 || len(w.Notes.Of(notes.NtFail)) != 0 {
			t.Fatal(seed, "lost", h.Drops)
		}
		exact := maps.New()
		for _, e := range hists.Order(h) {
			call := h.Calls[e.Call]
			if a, is := exact.Gives(call.Call, call.Epoch); !is || a != call.Answer || !exact.Fits(call) {
				t.Fatal(seed, call, a)
			}
		}
	}
	if grown < 40 || hopped < 1000 {
		t.Error(grown, hopped)
	}
}

// wires is a line of the protocol, or none, or data that is not as it must be.
func wires(x uint64) string {
	switch x >> 55 % 8 {
	case 0:
		return []string{"junk\r\n", "\r\n", "get\r\n", "set k1 0 0 1\r\nxyz\r\n", "incr k2 x\r\n", "version\r\n", "set k3 0 0 1025\r\n" + string(make([]byte, 1027)), string(make([]byte, 2049)) + "\n"}[x>>20%8]
	case 1:
		return "get k1 k2 k3\n"
	}
	return line(x)
}

func TestP0_3(t *testing.T) {
	told := 0
	for seed := range uint64(40) {
		m := machine(t, configs(seed), 1+int(seed%4))
		r := rule(seed + 900)
		fed := drive(m, &r, 1500, wires, func(machines.Did) {})
		h := m.Hist()
		own := maps.New()
		answers := make([][]api.Answer, m.Conns())
		for _, e := range hists.Order(h) {
			if e.Drop >= 0 {
				own.Drop(h.Drops[e.Drop].Item)
				continue
			}
			c := h.Calls[e.Call]
			a, _ := own.Gives(c.Call, c.Epoch)
			if c.Answer.Kind == api.AnNoRoom {
				a = c.Answer
			}
			own.Fits(c)
			answers[c.Thread] = append(answers[c.Thread], a)
		}
		for i, text := range fed {
			c := conns.New()
			for len(text) > 0 {
				n := min(int(r.next()>>40%70)+1, len(text))
				c.In([]byte(text[:n]))
				text = text[n:]
				for _, is := c.Next(); is; _, is = c.Next() {
					c.Done(answers[i][0])
					answers[i] = answers[i][1:]
				}
			}
			if c.Out() != m.Conn(i).Out() || len(answers[i]) != 0 {
				t.Fatalf("%d %d: %q, not %q", seed, i, m.Conn(i).Out(), c.Out())
			}
			told += len(c.Out())
		}
	}
	if told < 10000 {
		t.Error(told)
	}
}

func TestP0_4(t *testing.T) {
	hands := 0
	for seed := range uint64(50) {
		c := configs(seed)
		m := machine(t, c, 1+int(seed%4))
		w := m.World()
		r := rule(seed + 77)
		most := max(8*max(c.Budget, 4<<c.Bits), 4<<c.Bits)
		marks := map[int]uint64{} // by threads: the mark that was loaded last
		seen := 0
		drive(m, &r, 2500, line, func(d machines.Did) {
			last := w.Cells.Last()
			if d.Steps == 1 && last.Kind == api.AcLoad && last.Addr > api.CellRef {
				marks[d.Conn] = last.Was
			}
			t0 := w.Cells.Peek(api.CellTable)
			have := 0
			for n := range places.Spots(t0) {
				if w.Cells.Peek(places.Item(places.At(t0, n))) != 0 {
					have++
				}
			}
			if have > c.Budget || places.Spots(t0) > most {
				t.Fatal(seed, have, places.Spots(t0))
			}
			for _, n := range w.Notes.Since(seen) {
				seen++
				if n.Kind == notes.NtHand && n.Value > 2*places.Spots(t0) {
					t.Fatal(seed, n)
				}
				if n.Kind == notes.NtHand && n.Ref != 0 {
					hands++
				}
				if n.Kind == notes.NtEvict && w.Cells.Peek(api.CellSweep) == 1 && marks[n.Thread]&1 == 1 {
					t.Fatal(seed, "it had a mark", n)
				}
			}
		})
	}
	if hands < 100 {
		t.Error(hands)
	}
}

// Ten examples of the whole: some that no layer's own test holds.
func TestExamples(t *testing.T) {
	m := machine(t, plain, 2)
	m.Do(feed(0, "set a 0 0 1\r\nx\r\n"))
	m.Do(feed(1, "get b a b a\r\n"))
	// a get of several keys: each one with a point of its own
	for m.May(1) && len(hists.Of(m.Hist(), 1)) < 1 {
		m.Do(pick(1))
	}
	for m.May(0) {
		m.Do(pick(0))
	}
	through(m)
	if out := m.Conn(1).Out(); out != "VALUE a 0 1\r\nx\r\nVALUE a 0 1\r\nx\r\nEND\r\n" {
		t.Errorf("%q", out)
	}
	var steps []int
	for _, c := range m.Hist().Calls {
		steps = append(steps, c.To-c.From)
	}
	if !slices.Equal(steps, []int{9, 18, 12, 9, 10}) {
		t.Error(steps)
	}
	// flush_all 3
	m.Do(feed(0, "flush_all 3\r\n"))
	through(m)
	for i := range 4 {
		m.Do(feed(0, "get a\r\n"))
		through(m)
		h := hists.Of(m.Hist(), 0)
		if hit := h[len(h)-1].Answer.Kind == api.AnHit; hit != (i < 3) {
			t.Error("tick", i, hit)
		}
		m.Do(scripts.Cmd{Kind: scripts.CmTick})
	}
	// counted round, and down
	m.Do(feed(0, "set n 0 0 20\r\n18446744073709551615\r\nincr n 5\r\ndecr n 5\r\n"))
	through(m)
	if out := m.Conn(0).Out(); out[len(out)-6:] != "4\r\n0\r\n" {
		t.Errorf("%q", out)
	}
}
