package cells_test

import (
	"math"
	"slices"
	"testing"

	"nestbox/api"
	"nestbox/cells"
)

func TestP5_1(t *testing.T) {
	l := []cells.Word{{Addr: 9, Value: 1}, {Addr: 2, Value: 5}, {Addr: 9, Value: 3}, {Addr: 4, Value: 7}, {Addr: 4, Value: 0}}
	c := cells.New(l...)
	l[1].Value = 8
	if w := c.Words(); !slices.Equal(w, []cells.Word{{Addr: 2, Value: 5}, {Addr: 9, Value: 3}}) || cap(w) != len(w) {
		t.Error(w)
	}
	if c.Count() != 0 || c.Last() != (api.Access{}) || len(cells.New().Words()) != 0 || cells.New() == cells.New() {
		t.Error("accesses at first")
	}
}

func TestP5_2Example(t *testing.T) {
	c := cells.New()
	if n := c.Store(7, 5); n != 0 {
		t.Error(n)
	}
	if n := c.Load(7); n != 5 {
		t.Error(n)
	}
	if n, done := c.CAS(7, 5, 9); n != 5 || !done {
		t.Error(n, done)
	}
	if n, done := c.CAS(7, 5, 1); n != 9 || done {
		t.Error(n, done)
	}
	if n := c.Add(7, 2); n != 9 {
		t.Error(n)
	}
	if n := c.Swap(7, 0); n != 11 || len(c.Words()) != 0 || c.Count() != 6 {
		t.Error(n, c.Words(), c.Count())
	}
}

func TestP5_2And3(t *testing.T) {
	var c cells.Cells
	for i, x := range []struct {
		do func() uint64
		is api.Access
	}{
		{func() uint64 { return c.Load(3) }, api.Access{Kind: api.AcLoad, Addr: 3}},
		{func() uint64 { return c.Store(3, 8) }, api.Access{Kind: api.AcStore, Addr: 3, Is: 8}},
		{func() uint64 { return c.Add(3, math.MaxUint64) }, api.Access{Kind: api.AcAdd, Addr: 3, Was: 8, Is: 7}},
		{func() uint64 { n, _ := c.CAS(3, 7, 2); return n }, api.Access{Kind: api.AcCAS, Addr: 3, Was: 7, Is: 2}},
		{func() uint64 { n, _ := c.CAS(3, 7, 5); return n }, api.Access{Kind: api.AcCAS, Addr: 3, Was: 2, Is: 2}},
		{func() uint64 { return c.Swap(3, 4) }, api.Access{Kind: api.AcSwap, Addr: 3, Was: 2, Is: 4}},
		{func() uint64 { return c.Load(math.MaxUint64) }, api.Access{Kind: api.AcLoad, Addr: math.MaxUint64}},
		{func() uint64 { n, _ := c.CAS(1<<63, 0, 6); return n }, api.Access{Kind: api.AcCAS, Addr: 1 << 63, Is: 6}},
		{func() uint64 { return c.Store(3, 4) }, api.Access{Kind: api.AcStore, Addr: 3, Was: 4, Is: 4}},
	} {
		stood := x.do()
		if c.Last() != x.is || stood != x.is.Was || c.Count() != i+1 || c.Peek(x.is.Addr) != x.is.Is {
			t.Errorf("%d: %d, %v, %d", i, stood, c.Last(), c.Count())
		}
	}
	if w := c.Words(); !slices.Equal(w, []cells.Word{{Addr: 3, Value: 4}, {Addr: 1 << 63, Value: 6}}) || c.Count() != 9 {
		t.Error(w)
	}
	c.Words()[0].Value = 99
	if c.Peek(3) != 4 {
		t.Error("shared memory")
	}
}

func TestNoCells(t *testing.T) {
	var c *cells.Cells
	n, done := c.CAS(1, 0, 5)
	if n+c.Load(1)+c.Store(1, 2)+c.Swap(1, 3)+c.Add(1, 4)+c.Peek(1) != 0 || done || c.Count() != 0 || c.Last() != (api.Access{}) || c.Words() != nil {
		t.Error("something is kept of no cells")
	}
}

func TestP5_4(t *testing.T) {
	c, model, x := cells.New(), map[api.Addr]uint64{}, uint64(7)
	for i := range 5000 {
		x = x*6364136223846793005 + 1442695040888963407
		a, v := api.Addr(x>>60), x>>50&7
		before := model[a]
		var stood uint64
		switch i % 5 {
		case 0:
			stood = c.Load(a)
		case 1:
			stood, model[a] = c.Store(a, v), v
		case 2:
			stood, model[a] = c.Swap(a, v), v
		case 3:
			stood, model[a] = c.Add(a, v), before+v
		case 4:
			var done bool
			stood, done = c.CAS(a, v, v+1)
			if done != (before == v) {
				t.Fatal(i, done)
			}
			if done {
				if n, back := c.CAS(a, v+1, v); n != v+1 || !back || c.Peek(a) != v {
					t.Fatal(i, "there and back")
				}
			}
		}
		if stood != before || c.Last().Was != before && i%5 != 4 {
			t.Fatal(i, stood, before)
		}
		for k := range api.Addr(16) {
			if c.Peek(k) != model[k] {
				t.Fatal(i, k)
			}
		}
	}
}
