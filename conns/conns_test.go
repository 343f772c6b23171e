package conns_test

import (
	"strconv"
	"strings"
	"testing"

	"nestbox/api"
	"nestbox/conns"
)

func next(t *testing.T, c *conns.Conn, want api.Call) {
	t.Helper()
	if got, is := c.Next(); got != want || !is {
		t.Errorf("%v %v, not %v", got, is, want)
	}
	if got, is := c.Next(); is || got != (api.Call{}) {
		t.Error("two calls are under way")
	}
}

func done(t *testing.T, c *conns.Conn, a api.Answer) {
	t.Helper()
	if e := c.Done(a); e != api.OK {
		t.Error(e)
	}
	if e := c.Done(a); e != api.ErrNil {
		t.Error("done twice", e)
	}
}

func TestP32Example(t *testing.T) {
	c := conns.New()
	if _, is := c.Next(); is || c.Out() != "" || c.Closed() || c.Left() != 0 || c.Done(api.Answer{Kind: api.AnMiss}) != api.ErrNil {
		t.Error("at first")
	}
	c.In([]byte("get a b\nversion\nset a 0 0 1\nx\r\n"))
	if c.Left() != 4 {
		t.Error(c.Left())
	}
	next(t, c, api.Call{Verb: api.VbGet, Key: "a"})
	if c.Left() != 4 {
		t.Error(c.Left())
	}
	done(t, c, api.Answer{Kind: api.AnMiss})
	next(t, c, api.Call{Verb: api.VbGet, Key: "b"})
	if c.Left() != 3 || c.Out() != "" {
		t.Error(c.Left(), c.Out())
	}
	done(t, c, api.Answer{Kind: api.AnMiss})
	if c.Out() != "END\r\nVERSION nestbox 1\r\n" || c.Left() != 1 {
		t.Error(c.Out())
	}
	next(t, c, api.Call{Verb: api.VbSet, Key: "a", Value: "x"})
	done(t, c, api.Answer{Kind: api.AnStored, Number: 1})
	if c.Out() != "END\r\nVERSION nestbox 1\r\nSTORED\r\n" || c.Left() != 0 || c.Closed() {
		t.Error(c.Out())
	}
}

func TestP32_2And3(t *testing.T) {
	var c conns.Conn
	hit := func(key string, id uint64) api.Answer {
		return api.Answer{Kind: api.AnHit, Item: api.Item{Key: key, Value: "v" + key, Flags: 2, Id: id}}
	}
	c.In([]byte("gets a b a\r\nincr n 5 noreply\r\njunk\r\ncas k 1 -2 0 9\r\n\r\nflush_all 7\r\ndelete k noreply\r\ntouch k 3\r\n"))
	for _, x := range []struct {
		call   api.Call
		answer api.Answer
		left   int
		out    string
	}{
		{api.Call{Verb: api.VbGets, Key: "a"}, hit("a", 4), 8, "VALUE a 2 2 4\r\nva\r\n"},
		{api.Call{Verb: api.VbGets, Key: "b"}, api.Answer{Kind: api.AnMiss}, 7, ""},
		{api.Call{Verb: api.VbGets, Key: "a"}, hit("a", 5), 6, "VALUE a 2 2 5\r\nva\r\nEND\r\n"},
		{api.Call{Verb: api.VbIncr, Key: "n", By: 5}, api.Answer{Kind: api.AnNumber, Number: 9}, 4, "ERROR\r\n"},
		{api.Call{Verb: api.VbCas, Key: "k", Flags: 1, Exp: -2, Id: 9}, api.Answer{Kind: api.AnExists}, 3, "EXISTS\r\n"},
		{api.Call{Verb: api.VbFlush, Exp: 7}, api.Answer{Kind: api.AnOk}, 2, "OK\r\n"},
		{api.Call{Verb: api.VbDelete, Key: "k"}, api.Answer{Kind: api.AnDeleted}, 1, ""},
		{api.Call{Verb: api.VbTouch, Key: "k", Exp: 3}, api.Answer{Kind: api.AnNotFound}, 0, "NOT_FOUND\r\n"},
	} {
		before := c.Out()
		next(t, &c, x.call)
		done(t, &c, x.answer)
		if c.Out() != before+x.out {
			t.Errorf("%v: %q", x.call, c.Out()[len(before):])
		}
		if c.Left() != x.left {
			t.Errorf("%v: left %d", x.call, c.Left())
		}
	}
}

func TestP32_4Quit(t *testing.T) {
	c := conns.New()
	c.In([]byte("get a\nversion\nquit\nversion\nget b\nset"))
	next(t, c, api.Call{Verb: api.VbGet, Key: "a"})
	if c.Closed() || c.Left() != 5 {
		t.Error("closed too early", c.Left())
	}
	c.In([]byte("\nversion\n"))
	if c.Left() != 7 {
		t.Error(c.Left())
	}
	done(t, c, api.Answer{Kind: api.AnMiss})
	if !c.Closed() || c.Left() != 0 || c.Out() != "END\r\nVERSION nestbox 1\r\n" {
		t.Error(c.Out())
	}
	c.In([]byte("version\nget a\n"))
	if _, is := c.Next(); is || c.Left() != 0 || c.Out() != "END\r\nVERSION nestbox 1\r\n" || c.Done(api.Answer{}) != api.ErrNil {
		t.Error("a closed connection goes on")
	}
	c = conns.New()
	c.In([]byte("junk\nquit\nget a\n"))
	if !c.Closed() || c.Left() != 0 || c.Out() != "ERROR\r\n" {
		t.Error("quit at once")
	}
}

func TestNoConn(t *testing.T) {
	var c *conns.Conn
	c.In([]byte("get a\n"))
	if _, is := c.Next(); is || c.Done(api.Answer{}) != api.ErrNil || c.Out() != "" || c.Closed() || c.Left() != 0 {
		t.Error("no connection has something")
	}
}

func TestP32_5(t *testing.T) {
	pieces := []string{"get a b\r\n", "gets x\r\n", "set k 1 2 3\r\na\r\n\r\n", "set k 0 0 2\nxxxx\r\n", "junk\n", "version\n", "set big 0 0 3000\r\n" + strings.Repeat("y", 3002), "incr n 5\n", "delete q noreply\n", "touch\n", "flush_all 9\r\n"}
	x := uint64(5)
	for round := range 200 {
		var in []byte
		for range 15 {
			x = x*6364136223846793005 + 1442695040888963407
			in = append(in, pieces[x>>40%uint64(len(pieces))]...)
		}
		if round%5 == 0 {
			in = append(in, "quit\nget a\n"...)
		}
		run := func(cut bool) (calls []api.Call, out string) {
			c := conns.New()
			rest := in
			told := ""
			for n := 0; len(rest) > 0 || c.Left() > 0 && !c.Closed(); {
				if !cut || n%3 == 0 && len(rest) > 0 {
					x = x*6364136223846793005 + 1442695040888963407
					k := len(rest)
					if cut {
						k = min(int(x>>40%90)+1, k)
					}
					c.In(rest[:k])
					rest = rest[k:]
				}
				if call, is := c.Next(); is {
					calls = append(calls, call)
					c.Done(api.Answer{Kind: api.AnNumber, Number: uint64(len(calls))})
				}
				if !strings.HasPrefix(c.Out(), told) {
					t.Fatal("what was told changes")
				}
				told = c.Out()
				n++
			}
			return calls, c.Out()
		}
		calls, out := run(false)
		others, same := run(true)
		if out != same || len(calls) != len(others) {
			t.Fatalf("%q and %q", out, same)
		}
		own := 0
		for i, call := range calls {
			if call != others[i] {
				t.Fatal(call, others[i])
			}
			if call.Verb != api.VbGet && call.Verb != api.VbGets && call.Verb != api.VbDelete {
				at := strings.Index(out[own:], strconv.Itoa(i+1)+"\r\n")
				if at < 0 {
					t.Fatalf("answer %d of %q", i+1, out)
				}
				own += at
			}
		}
	}
}
