package runs_test

import (
	"bytes"
	"reflect"
	"slices"
	"strconv"
	"strings"
	"testing"

	"nestbox/api"
	"nestbox/hists"
	"nestbox/machines"
	"nestbox/runs"
	"nestbox/scripts"
	"nestbox/worlds"
)

var plain = worlds.Config{Bits: 2, Budget: 8, Tries: 3, Quantum: 1, Way: 16}

func config(n int) machines.Config {
	return machines.Config{World: plain, Conns: n}
}

func feed(conn int, text string) scripts.Cmd {
	return scripts.Cmd{Kind: scripts.CmFeed, Conn: conn, Bytes: []byte(text)}
}

func run(t *testing.T, n int, l ...scripts.Cmd) *machines.Machine {
	t.Helper()
	b, _ := scripts.Print(l)
	m, e := runs.Run(config(n), b)
	if e != api.OK {
		t.Fatal(e)
	}
	return m
}

func TestP39Example(t *testing.T) {
	m := run(t, 1, feed(0, "set a 0 0 1\r\nx\r\n"))
	if n, all := runs.Finish(m, 100); n != 18 || !all {
		t.Error(n, all)
	}
	if outs := runs.Outs(m); !slices.Equal(outs, []string{"STORED\r\n"}) || cap(outs) != 1 {
		t.Error(outs)
	}
	// a tick behind each of 17 windows
	if row := runs.Row(m.Hist().Calls[0]); row != "0 set a 0 35 21 stored 1" {
		t.Error(row)
	}
	if rows := runs.Rows(m); rows != "0 set a 0 35 21 stored 1\n" {
		t.Error(rows)
	}
}

func TestP39_1(t *testing.T) {
	if m, e := runs.Run(machines.Config{}, []byte{200}); m != nil || e != api.ErrArg {
		t.Error(e)
	}
	if m, e := runs.Run(config(0), nil); m != nil || e != api.ErrArg {
		t.Error(e)
	}
	b := []byte{0, 8, 'v', 'e', 'r', 's', 'i', 'o', 'n', 10, 1, 6, 'g', 'e', 't', ' ', 'a', 10, 65, 200, 67, 66}
	before := bytes.Clone(b)
	m, e := runs.Run(config(2), b)
	if e != api.OK || !bytes.Equal(b, before) || m.World().Steps() != 3 || !m.Under(1) || !slices.Equal(runs.Outs(m), []string{"VERSION nestbox 1\r\n", ""}) {
		t.Error(m.World().Steps())
	}
}

func TestP39_2(t *testing.T) {
	m := run(t, 3, feed(0, "get a b\n"), feed(2, "get c\n"))
	// the bytes 0, 2 and 5 pick 0, 2 and 2, 1 has nothing to do; then 0 and 2 go, and a tick
	if n := runs.Window(m, []byte{0, 1, 2, 5, 253}); n != 3+2 || m.World().Steps() != 6 {
		t.Error(n, m.World().Steps())
	}
	if n := runs.Window(m, nil); n != 2 || m.World().Steps() != 9 {
		t.Error(n, m.World().Steps())
	}
	for range 4 {
		runs.Window(m, nil)
	}
	// one that is through when its turn comes does not go
	m = run(t, 1, feed(0, "get a\n"))
	if n := runs.Window(m, make([]byte, 30)); n < 6 || n > 10 || m.World().Steps() != n+1 {
		t.Error(n)
	}
	if n := runs.Window(m, make([]byte, 30)); n != 0 {
		t.Error(n)
	}
	if runs.Window(nil, []byte{1}) != 0 || runs.Window(&machines.Machine{}, []byte{1}) != 0 {
		t.Error("of no machine")
	}
}

func TestP39_3(t *testing.T) {
	for _, c := range []struct {
		most, windows int
		all           bool
	}{{100, 18, true}, {18, 18, true}, {17, 17, false}, {1, 1, false}, {0, 0, false}, {-1, 0, false}, {-1 << 63, 0, false}} {
		m := run(t, 1, feed(0, "set a 0 0 1\r\nx\r\n"))
		if n, all := runs.Finish(m, c.most); n != c.windows || all != c.all {
			t.Error(c, n, all)
		}
		if n, all := runs.Finish(m, 1000); n != 18-c.windows || !all {
			t.Error(c, n, all)
		}
		if n, all := runs.Finish(m, -5); n != 0 || !all {
			t.Error(c, n, all)
		}
	}
	if n, all := runs.Finish(nil, 5); n != 0 || !all {
		t.Error(n, all)
	}
	if n, all := runs.Finish(&machines.Machine{}, 5); n != 0 || !all {
		t.Error(n, all)
	}
}

func TestP39_4(t *testing.T) {
	verbs := []string{"?", "get", "gets", "set", "add", "replace", "cas", "delete", "touch", "incr", "decr", "flush_all", "version", "quit", "?", "?"}
	for v, name := range verbs {
		x := hists.Called{Thread: v - 1, Call: api.Call{Verb: api.Verb(v), Key: "k"}, From: -4, To: 1 << 40, Point: 7, Answer: api.Answer{Kind: api.AnOk, Number: 5, Item: api.Item{Id: 8}}}
		if row := runs.Row(x); row != strconv.Itoa(v-1)+" "+name+" k -4 1099511627776 7 ok" {
			t.Error(row)
		}
	}
	kinds := []string{"none", "stored 18446744073709551615", "not_stored", "exists", "not_found", "no_room", "deleted", "touched", "number 18446744073709551615", "not_number", "ok", "hit 9000", "miss", "?", "?"}
	for k, word := range kinds {
		x := hists.Called{Call: api.Call{Verb: 255}, Answer: api.Answer{Kind: api.AnKind(k), Number: 1<<64 - 1, Item: api.Item{Id: 9000}}}
		if row := runs.Row(x); row != "0 ? - 0 0 0 "+word {
			t.Error(row)
		}
	}
	if row := runs.Row(hists.Called{Answer: api.Answer{Kind: 255}}); row != "0 ? - 0 0 0 ?" {
		t.Error(row)
	}
	if len(runs.Outs(nil)) != 0 || runs.Rows(nil) != "" || runs.Rows(run(t, 2)) != "" || !slices.Equal(runs.Outs(run(t, 2)), []string{"", ""}) {
		t.Error("of none")
	}
}

func text(x uint64) string {
	key := "k" + strconv.Itoa(int(x>>8%20))
	return []string{"set " + key + " 1 5 2\r\nab\r\n", "get " + key + " k3\r\n", "incr " + key + " 4\r\n", "set " + key + " 0 0 1\r\n7\r\n", "delete " + key + "\r\n", "junk\r\n", "flush_all 2\r\n", "touch " + key + " 9\r\n"}[x>>40%8]
}

func TestP39_5(t *testing.T) {
	for seed := range uint64(40) {
		x := seed
		var l []scripts.Cmd
		for range 600 {
			x = x*6364136223846793005 + 1442695040888963407
			i := int(x >> 33 % 64)
			switch {
			case x>>58 == 0:
				l = append(l, scripts.Cmd{Kind: scripts.CmTick})
			case x>>58 < 9:
				l = append(l, feed(i, text(x)))
			default:
				l = append(l, scripts.Cmd{Kind: scripts.CmPick, Conn: i})
			}
		}
		c := config(1 + int(seed%5))
		b, _ := scripts.Print(l)
		m, _ := runs.Run(c, b)
		again, _ := runs.Run(c, b)
		front, _ := scripts.Print(l[:300])
		cut, _ := runs.Run(c, front)
		grown := runs.Outs(cut)
		var halves []scripts.Cmd
		for i, x := range l {
			if i >= 300 {
				cut.Do(x)
			}
			if x.Kind == scripts.CmFeed {
				halves = append(halves, feed(x.Conn, string(x.Bytes[:len(x.Bytes)/2])), feed(x.Conn, string(x.Bytes[len(x.Bytes)/2:])))
			} else {
				halves = append(halves, x)
			}
		}
		h, _ := scripts.Print(halves)
		split, _ := runs.Run(c, h)
		for _, other := range []*machines.Machine{again, cut, split} {
			if !slices.Equal(runs.Outs(m), runs.Outs(other)) || runs.Rows(m) != runs.Rows(other) || !reflect.DeepEqual(m.Hist(), other.Hist()) || !slices.Equal(m.World().Cells.Words(), other.World().Cells.Words()) || !slices.Equal(m.World().Notes.All(), other.World().Notes.All()) {
				t.Fatal(seed, "another run")
			}
		}
		for n := 0; ; n++ {
			may := false
			for i := range m.Conns() {
				may = may || m.May(i)
			}
			x = x*6364136223846793005 + 1442695040888963407
			turns := runs.Window(m, []byte{byte(x >> 40), byte(x >> 50)}[:x>>60%3])
			if may && turns == 0 || n > 9999 {
				t.Fatal(seed, "no turn")
			}
			for i, out := range runs.Outs(m) {
				if !strings.HasPrefix(out, grown[i]) {
					t.Fatal(seed, "what was told changes")
				}
			}
			grown = runs.Outs(m)
			if !may {
				break
			}
		}
	}
}
