package machines_test

import (
	"reflect"
	"strconv"
	"testing"

	"nestbox/api"
	"nestbox/conns"
	"nestbox/hists"
	"nestbox/machines"
	"nestbox/notes"
	"nestbox/scripts"
	"nestbox/worlds"
)

var plain = worlds.Config{Bits: 2, Budget: 8, Tries: 3, Quantum: 1, Way: 16}

func machine(t *testing.T, n int) *machines.Machine {
	t.Helper()
	m, e := machines.New(machines.Config{World: plain, Conns: n})
	if e != api.OK {
		t.Fatal(e)
	}
	return m
}

func feed(conn int, text string) scripts.Cmd {
	return scripts.Cmd{Kind: scripts.CmFeed, Conn: conn, Bytes: []byte(text)}
}

func pick(conn int) scripts.Cmd {
	return scripts.Cmd{Kind: scripts.CmPick, Conn: conn}
}

func TestP35_1(t *testing.T) {
	bad := plain
	bad.Way = 1
	for i, c := range []struct {
		c machines.Config
		e api.Errno
	}{
		{machines.Config{World: plain, Conns: 1}, api.OK}, {machines.Config{World: plain, Conns: 64}, api.OK}, {machines.Config{World: plain, Conns: 0}, api.ErrArg}, {machines.Config{World: plain, Conns: 65}, api.ErrArg},
		{machines.Config{World: plain, Conns: -1}, api.ErrArg}, {machines.Config{World: bad, Conns: 1}, api.ErrArg}, {machines.Config{}, api.ErrArg},
	} {
		m, e := machines.New(c.c)
		if e != c.e || (m != nil) != (e == api.OK) || m.Conns() != c.c.Conns && e == api.OK {
			t.Error(i, e)
		}
	}
	m := machine(t, 2)
	if m.World().Steps() != 0 || m.World().Config != plain || m.Conn(0) == m.Conn(1) || m.Conn(0) == nil || m.Conn(2) != nil || m.Conn(-1) != nil || m.World() != m.World() || m.Conn(1) != m.Conn(1) {
		t.Error("not as at first")
	}
	if h := m.Hist(); len(h.Calls)+len(h.Drops) != 0 || m.May(0) || m.Under(0) || m.May(2) || m.Under(-1) {
		t.Error(h)
	}
}

func TestP35Example(t *testing.T) {
	m := machine(t, 2)
	if d := m.Do(feed(0, "set a 0 0 1\r\nx\r\n")); d != (machines.Did{Conn: 0}) || m.World().Steps() != 0 || m.Under(0) || !m.May(0) || m.May(1) {
		t.Error(d)
	}
	for i := range 18 {
		d := m.Do(pick(2)) // of two connections it is the connection 0
		want := machines.Did{Conn: 0, Steps: 1}
		if i == 17 {
			want.Over, want.Answer = true, api.Answer{Kind: api.AnStored, Number: 1}
		}
		if d != want || m.Under(0) != (i < 17) || m.May(0) != (i < 17) || m.World().Steps() != i+1 {
			t.Error(i, d)
		}
	}
	if m.Conn(0).Out() != "STORED\r\n" || m.May(0) {
		t.Error(m.Conn(0).Out())
	}
	want := hists.Called{Call: api.Call{Verb: api.VbSet, Key: "a", Value: "x"}, To: 18, Answer: api.Answer{Kind: api.AnStored, Number: 1}, Point: 11}
	if h := m.Hist(); len(h.Calls) != 1 || h.Calls[0] != want || cap(h.Calls) != 1 {
		t.Error(h)
	}
}

func TestP35_2(t *testing.T) {
	m := machine(t, 3)
	for i, x := range []scripts.Cmd{pick(0), pick(1), pick(5), pick(-1), feed(-1, "get a\n"), {Kind: scripts.CmTick, Conn: -1}, {Kind: 3}, {Kind: 255, Conn: 1, Bytes: []byte("get a\n")}} {
		if d := m.Do(x); d != (machines.Did{Conn: -1}) || m.World().Steps() != 0 {
			t.Error(i, d)
		}
	}
	if d := m.Do(scripts.Cmd{Kind: scripts.CmTick, Conn: 7}); d != (machines.Did{Conn: -1, Steps: 1}) || m.World().Cells.Peek(api.CellEpoch) != 1 {
		t.Error(d)
	}
	if d := m.Do(scripts.Cmd{Kind: scripts.CmTick}); d != (machines.Did{Conn: -1, Steps: 1}) || m.World().Steps() != 2 {
		t.Error(d)
	}
	if d := m.Do(feed(1<<40+1, "")); d.Conn != (1<<40+1)%3 {
		t.Error(d)
	}
	m.Do(feed(1, "version\r\njunk\r\n"))
	if d := m.Do(pick(1)); d != (machines.Did{Conn: -1}) || m.Conn(1).Out() != "VERSION nestbox 1\r\nERROR\r\n" {
		t.Error(d)
	}
	m.Do(feed(1, "quit\r\nget a\r\n"))
	if d := m.Do(feed(1, "get b\n")); d != (machines.Did{Conn: 1}) || m.May(1) || !m.Conn(1).Closed() {
		t.Error(d)
	}
	b := []byte("get a\n")
	m.Do(scripts.Cmd{Kind: scripts.CmFeed, Conn: 2, Bytes: b[:4]})
	copy(b, "xxxx")
	m.Do(feed(2, "k\n"))
	m.Do(pick(2))
	if !m.Under(2) || m.World().Steps() != 3 {
		t.Error("a call under way")
	}
	// two calls of one thread: From of the later one is what it was when it began
	m.Do(scripts.Cmd{Kind: scripts.CmTick})
	for m.May(2) {
		m.Do(pick(2))
	}
	m.Do(feed(2, "gets k j\nflush_all 2\nset k 1 0 1\n7\r\nincr k 2\ntouch k -1\ndelete k\n"))
	m.Do(scripts.Cmd{Kind: scripts.CmTick})
	for m.May(2) {
		m.Do(pick(2))
	}
	h := m.Hist()
	var kinds []api.AnKind
	last := 0
	for i, c := range h.Calls {
		kinds = append(kinds, c.Answer.Kind)
		if c.Thread != 2 || c.From < last || c.Point <= c.From || c.To < c.Point {
			t.Error(i, c)
		}
		last = c.To
	}
	if want := []api.AnKind{api.AnMiss, api.AnMiss, api.AnMiss, api.AnOk, api.AnStored, api.AnNumber, api.AnTouched, api.AnNotFound}; !reflect.DeepEqual(kinds, want) {
		t.Error(kinds)
	}
	if h.Calls[0].From != 2 || h.Calls[1].From != h.Calls[0].To+1 || h.Calls[1].Call.Verb != api.VbGets || h.Calls[3].Call.Exp != 2 {
		t.Error(h.Calls)
	}
	if out := m.Conn(2).Out(); out != "END\r\nEND\r\nOK\r\nSTORED\r\n9\r\nTOUCHED\r\nNOT_FOUND\r\n" {
		t.Errorf("%q", out)
	}
	h.Calls[0].Point = 999
	if m.Hist().Calls[0].Point == 999 {
		t.Error("shared memory")
	}
}

func TestNoMachine(t *testing.T) {
	var none *machines.Machine
	for _, m := range []*machines.Machine{none, {}} {
		for _, x := range []scripts.Cmd{feed(0, "get a\n"), pick(0), {Kind: scripts.CmTick}} {
			if d := m.Do(x); d != (machines.Did{Conn: -1}) {
				t.Error(d)
			}
		}
		if h := m.Hist(); m.World() != nil || m.Conns() != 0 || m.Conn(0) != nil || m.Under(0) || m.May(0) || len(h.Calls)+len(h.Drops) != 0 {
			t.Error("no machine has something")
		}
	}
}

// line of a random command, over few keys.
func line(x uint64) string {
	key := "k" + strconv.Itoa(int(x>>8%14))
	n := strconv.Itoa(int(x >> 20 % 30))
	quiet := ""
	if x>>30%5 == 0 {
		quiet = " noreply"
	}
	switch x >> 40 % 16 {
	case 0, 1, 2, 3:
		return "set " + key + " 1 " + n + " " + strconv.Itoa(len(n)) + quiet + "\r\n" + n + "\r\n"
	case 4:
		return "add " + key + " 2 0 1" + quiet + "\r\n5\r\n"
	case 5:
		return "replace " + key + " 3 0 1" + quiet + "\r\n6\r\n"
	case 6:
		return "cas " + key + " 4 0 1 " + n + quiet + "\r\n7\r\n"
	case 7:
		return "delete " + key + quiet + "\r\n"
	case 8:
		return "touch " + key + " " + n + "\r\n"
	case 9:
		return "incr " + key + " " + n + quiet + "\r\n"
	case 10:
		return "decr " + key + " " + n + "\r\n"
	case 11:
		return []string{"flush_all\r\n", "flush_all 3\r\n", "version\r\n", "junk\r\n"}[x>>50%4]
	}
	return "gets " + key + " k" + n + "\r\n"
}

func TestP35_6(t *testing.T) {
	for seed := range uint64(40) {
		c := plain
		c.Budget = 3 + int(seed%9)
		c.Bits = 1 + int(seed%2)
		c.Tries = int(seed % 3)
		m, _ := machines.New(machines.Config{World: c, Conns: 1 + int(seed%5)})
		fed := make([]string, m.Conns())
		x := seed
		for range 3000 {
			x = x*6364136223846793005 + 1442695040888963407
			i := int(x >> 33 % uint64(m.Conns()))
			switch x >> 55 % 20 {
			case 0:
				text := line(x)
				fed[i] += text
				m.Do(feed(i, text))
			case 1:
				m.Do(scripts.Cmd{Kind: scripts.CmTick})
			default:
				may := m.May(i)
				if d := m.Do(pick(i)); may != (d == machines.Did{Conn: i, Steps: 1, Over: d.Over, Answer: d.Answer}) || !may && d != (machines.Did{Conn: -1}) {
					t.Fatal(seed, may, d)
				}
			}
		}
		for n := 0; ; n++ {
			through := true
			for i := range m.Conns() {
				through = through && !m.May(i)
				m.Do(pick(i))
			}
			if through {
				break
			}
			if n > 200000 {
				t.Fatal(seed, "no end")
			}
		}
		h := m.Hist()
		if !hists.Well(h) || len(h.Drops) != len(m.World().Notes.Of(notes.NtEvict)) {
			t.Fatal(seed, "not well")
		}
		for i := range m.Conns() {
			own := conns.New()
			own.In([]byte(fed[i]))
			for _, called := range hists.Of(h, i) {
				if call, is := own.Next(); !is || call != called.Call {
					t.Fatal(seed, call, called)
				}
				own.Done(called.Answer)
			}
			if own.Out() != m.Conn(i).Out() || own.Left() != 0 {
				t.Fatal(seed, i, own.Out())
			}
		}
	}
}
