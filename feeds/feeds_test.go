package feeds_test

import (
	"reflect"
	"strings"
	"testing"

	"nestbox/api"
	"nestbox/feeds"
	"nestbox/lines"
)

func parse(t *testing.T, line string) lines.Command {
	t.Helper()
	c, told := lines.Parse(line)
	if told != lines.TdNone {
		t.Fatal(line, told)
	}
	return c
}

func event(t *testing.T, line, data string) feeds.Event {
	t.Helper()
	return feeds.Event{Command: parse(t, line), Data: data}
}

func fault(d lines.Told) feeds.Event {
	return feeds.Event{Told: d}
}

func TestP30Example(t *testing.T) {
	f := feeds.New()
	for _, c := range []struct {
		in   string
		want []feeds.Event
		left int
	}{
		{"get a\nset b 0 0 2\r\n", []feeds.Event{event(t, "get a", "")}, 0},
		{"x", nil, 1},
		{"\n\r\n", []feeds.Event{event(t, "set b 0 0 2", "x\n")}, 0},
		{"set c 0 0 1\r\nxyz\n", []feeds.Event{fault(lines.TdChunk)}, 0},
		{"nonsense\n", []feeds.Event{fault(lines.TdError)}, 0},
		{"", nil, 0},
	} {
		b := []byte(c.in)
		got := f.In(b)
		for i := range b {
			b[i] = 'z'
		}
		if !reflect.DeepEqual(got, c.want) || f.Left() != c.left || cap(got) != len(got) {
			t.Errorf("%q: %v, %d", c.in, got, f.Left())
		}
	}
}

func TestP30_1(t *testing.T) {
	long := strings.Repeat("x", 2048)
	ok := event(t, "get z", "")
	for _, c := range []struct {
		in   string
		want []feeds.Event
	}{
		{"\nget z\n", []feeds.Event{fault(lines.TdError), ok}},
		{"\r\nget z\r\r\nget z\r\n", []feeds.Event{fault(lines.TdError), fault(lines.TdFormat), ok}},
		{"get z \r\nget z\r", []feeds.Event{ok}},
		{long + "\nget z\n", []feeds.Event{fault(lines.TdError), ok}},
		{long + "\r\nget z\n", []feeds.Event{fault(lines.TdTooLong), ok}},
		{long + "x", []feeds.Event{fault(lines.TdTooLong)}},
		{long + long + long + "\nget z\n", []feeds.Event{fault(lines.TdTooLong), ok}},
		{long[1:] + "\r\nget z\n", []feeds.Event{fault(lines.TdError), ok}},
		{"incr a x\nset a 0 0\nset a 0 0 -1\nget z\n", []feeds.Event{fault(lines.TdNumber), fault(lines.TdError), fault(lines.TdFormat), ok}},
		{"set a 0 0 0\n\r\nget z\n", []feeds.Event{event(t, "set a 0 0 0", ""), ok}},
		{"set a 0 0 0\n\nget z\n", []feeds.Event{fault(lines.TdChunk), ok}},
		{"set a 0 0 1\nx\nget z\n", []feeds.Event{fault(lines.TdChunk), ok}},
		{"set a 0 0 1\nx\r\rget z\nget z\n", []feeds.Event{fault(lines.TdChunk), ok}},
		{"set a 0 0 1\nx\rget z\nget z\n", []feeds.Event{fault(lines.TdChunk), ok}},
		{"set a 0 0 1\nxx\r\nget z\n", []feeds.Event{fault(lines.TdChunk), ok}},
		{"set a 0 0 2\nx\r\nget z\n", []feeds.Event{fault(lines.TdChunk), ok}},
		{"set a 0 0 3 noreply\n\x00\r\n\r\nget z\n", []feeds.Event{event(t, "set a 0 0 3 noreply", "\x00\r\n"), ok}},
		{"cas a 1 2 1 3\nx\r\nget z\n", []feeds.Event{event(t, "cas a 1 2 1 3", "x"), ok}},
		{"set a 0 0 1025\n" + long[:1025] + "\r\nget z\n", []feeds.Event{fault(lines.TdLarge), ok}},
		{"set a 0 0 1025\n" + strings.Repeat("\n", 1027) + "get z\n", []feeds.Event{fault(lines.TdLarge), ok}},
		{"set a 0 0 1025\n" + long[:1026], []feeds.Event{fault(lines.TdLarge)}},
		{"set a 0 0 1024\n" + long[:1024] + "\r\nget z\n", []feeds.Event{event(t, "set a 0 0 1024", long[:1024]), ok}},
		{"set a 0 0 2147483647\nget z\n", []feeds.Event{fault(lines.TdLarge)}},
		{"quit\nversion\nflush_all\n", []feeds.Event{event(t, "quit", ""), event(t, "version", ""), event(t, "flush_all", "")}},
	} {
		if got := feeds.New().In([]byte(c.in)); !reflect.DeepEqual(got, c.want) {
			t.Errorf("%.60q: %v", c.in, got)
		}
		f := &feeds.Feed{}
		var got []feeds.Event
		for _, b := range []byte(c.in) {
			got = append(got, f.In([]byte{b})...)
		}
		if !reflect.DeepEqual(got, c.want) {
			t.Errorf("%.60q byte by byte: %v", c.in, got)
		}
	}
}

func TestP30_2(t *testing.T) {
	for in, left := range map[string]int{
		"": 0, "get": 3, "get\r": 4, "get a\n": 0, "set a 0 0 2\n": 0, "set a 0 0 2\nx": 1, "set a 0 0 2\nxy": 2, "set a 0 0 2\nxy\r": 3, "set a 0 0 2\nxy\r\n": 0, "set a 0 0 2\nxyz": 0, "set a 0 0 2\nxyzz": 0, "set a 0 0 0\n\r": 1,
		strings.Repeat("x", 2048): 2048, strings.Repeat("x", 2049): 0, strings.Repeat("x", 3000): 0, "set a 0 0 2000\nxxx": 0, "x\ny": 1,
	} {
		f := feeds.New()
		if f.In([]byte(in)); f.Left() != left {
			t.Errorf("%.20q: %d", in, f.Left())
		}
	}
	var none *feeds.Feed
	if none.In([]byte("get a\n")) != nil || none.Left() != 0 {
		t.Error("of no feed")
	}
}

func TestP30_3(t *testing.T) {
	pieces := []string{"get a b\r\n", "set k 1 2 3\r\na\r\n\r\n", "set k 0 0 2\nxxxx\r\n", "\n", "set big 0 0 3000\r\n", strings.Repeat("y", 999), "incr n 5\n", "cas k 0 0 1 9 noreply\r\n\n\r\n", "junk", "\r", "quit\n", strings.Repeat("long", 600) + "\n"}
	x := uint64(77)
	for range 400 {
		var in []byte
		for range 12 {
			x = x*6364136223846793005 + 1442695040888963407
			in = append(in, pieces[x>>40%uint64(len(pieces))]...)
		}
		whole, cut := feeds.New(), feeds.New()
		want := whole.In(in)
		var got []feeds.Event
		for rest := in; len(rest) > 0; {
			x = x*6364136223846793005 + 1442695040888963407
			n := min(int(x>>40%50), len(rest))
			got = append(got, cut.In(rest[:n])...)
			rest = rest[n:]
		}
		if !reflect.DeepEqual(got, want) || whole.Left() != cut.Left() {
			t.Fatalf("%q", in)
		}
		// what was too large is swallowed, or data ends; then a line of nonsense brings it back
		cut.In(make([]byte, 4000))
		cut.In([]byte("\nnonsense\n"))
		if back := cut.In([]byte("get a\n")); len(back) != 1 || back[0].Told != lines.TdNone {
			t.Fatalf("%q: %v", in, back)
		}
	}
	f := feeds.New()
	for _, data := range []string{"", "\n", "\r\n", "get a\r\n", strings.Repeat("\x00", 1024), "\xff\r"} {
		c := lines.Command{Verb: api.VbSet, Keys: []string{"k"}, Call: api.Call{Verb: api.VbSet, Key: "k"}, Bytes: len(data)}
		line, _ := lines.Line(c)
		if got := f.In([]byte(line + "\r\n" + data + "\r\n")); len(got) != 1 || !reflect.DeepEqual(got[0], feeds.Event{Command: c, Data: data}) {
			t.Errorf("%q: %v", data, got)
		}
	}
}
