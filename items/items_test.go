package items_test

import (
	"strconv"
	"testing"

	"nestbox/api"
	"nestbox/items"
)

func record(i int) api.Item {
	return api.Item{Key: "k" + strconv.Itoa(i), Value: strconv.Itoa(i * i), Flags: uint32(i), Id: uint64(i) << 40, Dies: -i, Gen: i % 3}
}

func TestP6_1And2(t *testing.T) {
	a := items.New()
	if n, e := a.Add(api.Item{Key: "a"}); n != 1 || e != api.OK {
		t.Error(n, e)
	}
	if n, e := a.Add(api.Item{Key: "b"}); n != 2 || e != api.OK {
		t.Error(n, e)
	}
	if x, is := a.At(1); x != (api.Item{Key: "a"}) || !is {
		t.Error(x, is)
	}
	for _, ref := range []int{0, 3, -1, 256, 257, -1 << 63, 1<<63 - 1} {
		if x, is := a.At(ref); x != (api.Item{}) || is {
			t.Error(ref, x, is)
		}
	}
	if a.Count() != 2 || items.New().Count() != 0 {
		t.Error(a.Count())
	}
}

func TestNoArena(t *testing.T) {
	var none *items.Arena
	if n, e := none.Add(record(1)); n != 0 || e != api.ErrNil {
		t.Error(n, e)
	}
	if x, is := none.At(1); x != (api.Item{}) || is || none.Count() != 0 {
		t.Error(x, is)
	}
	var own items.Arena
	if n, e := own.Add(record(1)); n != 1 || e != api.OK || own.Count() != 1 {
		t.Error(n, e)
	}
}

func TestP6_1Full(t *testing.T) {
	a := items.New()
	for i := range api.MaxItems {
		if n, e := a.Add(api.Item{Id: uint64(i)}); n != i+1 || e != api.OK {
			t.Fatal(i, n, e)
		}
	}
	if n, e := a.Add(record(1)); n != 0 || e != api.ErrFull || a.Count() != api.MaxItems {
		t.Error(n, e, a.Count())
	}
	if x, is := a.At(api.MaxItems); x.Id != api.MaxItems-1 || !is {
		t.Error(x, is)
	}
	if _, is := a.At(api.MaxItems + 1); is {
		t.Error("one more")
	}
}

func TestP6_3(t *testing.T) {
	a, b := items.New(), items.New()
	for i := 1; i <= 1500; i++ {
		if n, _ := a.Add(record(i)); n != i {
			t.Fatal(i, n)
		}
		if i%100 == 0 {
			b.Add(record(-i))
		}
		for k := 1; k <= i; k += 1 + i/9 {
			if x, is := a.At(k); x != record(k) || !is {
				t.Fatal(i, k, x)
			}
		}
	}
	if x, _ := b.At(3); b.Count() != 15 || x != record(-300) {
		t.Error("arenas know of each other")
	}
}
