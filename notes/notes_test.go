package notes_test

import (
	"slices"
	"testing"

	"nestbox/api"
	"nestbox/notes"
)

func TestP9Example(t *testing.T) {
	l := notes.New()
	for i, c := range []struct {
		n notes.Note
		e api.Errno
	}{
		{notes.Note{Step: 4, Kind: notes.NtEvict, Ref: 9}, api.OK}, {notes.Note{Step: 3, Kind: notes.NtTick}, api.ErrArg}, {notes.Note{Step: 4, Kind: 10}, api.ErrArg}, {notes.Note{Step: 4, Kind: notes.NtTick}, api.OK},
		{notes.Note{Step: 4}, api.ErrArg}, {notes.Note{Step: 9, Kind: 255}, api.ErrArg},
	} {
		if e := l.Add(c.n); e != c.e {
			t.Error(i, e)
		}
	}
	if l.Count() != 2 || !slices.Equal(l.Of(notes.NtTick), []notes.Note{{Step: 4, Kind: notes.NtTick}}) {
		t.Error(l.All())
	}
	if at, is := l.Dropped(9); at != 0 || !is {
		t.Error(at, is)
	}
	if at, is := l.Dropped(4); at != 0 || is {
		t.Error(at, is)
	}
}

func TestP9_1Full(t *testing.T) {
	var l notes.List
	for i := range api.MaxNotes {
		if e := l.Add(notes.Note{Step: i - 5, Kind: notes.NtRetry}); e != api.OK {
			t.Fatal(i, e)
		}
	}
	for n, e := range map[notes.Note]api.Errno{{Step: api.MaxNotes, Kind: notes.NtRetry}: api.ErrFull, {Step: 0, Kind: notes.NtRetry}: api.ErrArg, {Step: api.MaxNotes}: api.ErrArg} {
		if l.Add(n) != e || l.Count() != api.MaxNotes {
			t.Error(n, l.Count())
		}
	}
}

func TestP9_2And3(t *testing.T) {
	l := notes.New()
	var all []notes.Note
	for i := range 40 {
		n := notes.Note{Step: i / 3, Thread: i%5 - 1, Kind: notes.Kind(i%9 + 1), Ref: i % 7, Spot: api.Spot{Slot: i}, Value: -i}
		if e := l.Add(n); e != api.OK {
			t.Fatal(e)
		}
		all = append(all, n)
	}
	if got := l.All(); !slices.Equal(got, all) || cap(got) != len(got) {
		t.Error(got)
	}
	for at := -3; at < 45; at++ {
		from := min(max(at, 0), 40)
		if got := l.Since(at); !slices.Equal(got, all[from:]) || cap(got) != len(got) {
			t.Error(at, got)
		}
	}
	for k := range notes.Kind(12) {
		got := l.Of(k)
		for i, n := range got {
			if n.Kind != k || i > 0 && got[i-1].Spot.Slot >= n.Spot.Slot {
				t.Error(k, n)
			}
		}
		if k >= 1 && k <= 9 && len(got) < 4 || (k < 1 || k > 9) && len(got) != 0 || cap(got) != len(got) {
			t.Error(k, len(got))
		}
	}
	for ref := -1; ref < 8; ref++ {
		want, has := 0, false
		for i, n := range all {
			if n.Kind == notes.NtEvict && n.Ref == ref {
				want, has = i, true
			}
		}
		if at, is := l.Dropped(ref); at != want || is != has {
			t.Error(ref, at, is)
		}
	}
	l.All()[0].Ref = 77
	l.Since(0)[0].Ref = 77
	l.Of(notes.NtEvict)[0].Ref = 77
	if l.All()[0].Ref != 0 {
		t.Error("shared memory")
	}
}

func TestP9_4(t *testing.T) {
	for k, name := range []string{"?", "evict", "fail", "full", "grow", "swap", "retry", "locked", "hand", "tick", "?", "?"} {
		if notes.Name(notes.Kind(k)) != name {
			t.Error(k, notes.Name(notes.Kind(k)))
		}
	}
	if notes.Name(255) != "?" {
		t.Error(notes.Name(255))
	}
}

func TestNoList(t *testing.T) {
	var l *notes.List
	at, is := l.Dropped(0)
	if l.Add(notes.Note{Kind: notes.NtTick}) != api.ErrNil || l.Add(notes.Note{}) != api.ErrNil || l.Count() != 0 || len(l.All())+len(l.Since(-1))+len(l.Of(notes.NtTick)) != 0 || at != 0 || is {
		t.Error("something in no list")
	}
}

func TestP9_5(t *testing.T) {
	l := notes.New()
	seen := 0
	for i := range 60 {
		before := l.Count()
		for k := range i % 4 {
			l.Add(notes.Note{Step: i, Kind: notes.Kind((i + k) % 12), Ref: k})
		}
		since := l.Since(before)
		for _, n := range since {
			if n.Step != i {
				t.Fatal(i, n)
			}
		}
		seen += len(since)
	}
	kinds := 0
	for k := range notes.Kind(20) {
		kinds += len(l.Of(k))
	}
	if seen != l.Count() || kinds != l.Count() {
		t.Error(seen, kinds, l.Count())
	}
}
