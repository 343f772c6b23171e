package lines_test

import (
	"math"
	"reflect"
	"strconv"
	"strings"
	"testing"

	"nestbox/api"
	"nestbox/lines"
)

func command(v api.Verb, bytes int, quiet bool, c api.Call, keys ...string) lines.Command {
	c.Verb = v
	if len(keys) > 0 {
		c.Key = keys[0]
	}
	return lines.Command{Verb: v, Keys: keys, Call: c, Bytes: bytes, Quiet: quiet}
}

func many(n int) []string {
	var keys []string
	for i := range n {
		keys = append(keys, "k"+strconv.Itoa(i))
	}
	return keys
}

func TestP29_1(t *testing.T) {
	long := strings.Repeat("a", 250)
	for _, c := range []struct {
		line string
		want lines.Command
	}{
		{"get a b", command(api.VbGet, -1, false, api.Call{}, "a", "b")},
		{"gets a a", command(api.VbGets, -1, false, api.Call{}, "a", "a")},
		{"get noreply", command(api.VbGet, -1, false, api.Call{}, "noreply")},
		{"get a noreply", command(api.VbGet, -1, false, api.Call{}, "a", "noreply")},
		{"get " + strings.Join(many(64), " "), command(api.VbGet, -1, false, api.Call{}, many(64)...)},
		{"set a 5 0 3", command(api.VbSet, 3, false, api.Call{Flags: 5}, "a")},
		{"set a 5 0 3 noreply", command(api.VbSet, 3, true, api.Call{Flags: 5}, "a")},
		{"set noreply 4294967295 -9223372036854775808 1024 noreply", command(api.VbSet, 1024, true, api.Call{Flags: math.MaxUint32, Exp: math.MinInt64}, "noreply")},
		{"add a 0 0 1 noreply", command(api.VbAdd, 1, true, api.Call{}, "a")},
		{"replace a 0 0 1 noreply", command(api.VbReplace, 1, true, api.Call{}, "a")},
		{"incr a 4 noreply", command(api.VbIncr, -1, true, api.Call{By: 4}, "a")},
		{"add a 0 -5 0", command(api.VbAdd, 0, false, api.Call{Exp: -5}, "a")},
		{"replace " + long + " 007 9223372036854775807 0001", command(api.VbReplace, 1, false, api.Call{Flags: 7, Exp: math.MaxInt64}, long)},
		{"cas a 1 2 3 18446744073709551615", command(api.VbCas, 3, false, api.Call{Flags: 1, Exp: 2, Id: math.MaxUint64}, "a")},
		{"cas a 1 2 3 4 noreply", command(api.VbCas, 3, true, api.Call{Flags: 1, Exp: 2, Id: 4}, "a")},
		{"delete a", command(api.VbDelete, -1, false, api.Call{}, "a")},
		{"delete noreply", command(api.VbDelete, -1, false, api.Call{}, "noreply")},
		{"delete a noreply", command(api.VbDelete, -1, true, api.Call{}, "a")},
		{"delete noreply noreply", command(api.VbDelete, -1, true, api.Call{}, "noreply")},
		{"touch a -1", command(api.VbTouch, -1, false, api.Call{Exp: -1}, "a")},
		{"touch a 2 noreply", command(api.VbTouch, -1, true, api.Call{Exp: 2}, "a")},
		{"incr a 18446744073709551615", command(api.VbIncr, -1, false, api.Call{By: math.MaxUint64}, "a")},
		{"decr a 0 noreply", command(api.VbDecr, -1, true, api.Call{}, "a")},
		{"flush_all", command(api.VbFlush, -1, false, api.Call{})},
		{"flush_all noreply", command(api.VbFlush, -1, true, api.Call{})},
		{"flush_all 30", command(api.VbFlush, -1, false, api.Call{Exp: 30})},
		{"flush_all -0 noreply", command(api.VbFlush, -1, true, api.Call{})},
		{"version", command(api.VbVersion, -1, false, api.Call{})},
		{"  quit  ", command(api.VbQuit, -1, false, api.Call{})},
		{strings.Repeat(" ", 2048-5) + "get a", command(api.VbGet, -1, false, api.Call{}, "a")},
	} {
		got, told := lines.Parse(c.line)
		if told != lines.TdNone || !reflect.DeepEqual(got, c.want) || cap(got.Keys) != len(got.Keys) {
			t.Errorf("%.40q: %v %d", c.line, got, told)
		}
	}
	got, told := lines.Parse("set a 5 0 1025 noreply")
	if told != lines.TdLarge || !reflect.DeepEqual(got, command(api.VbSet, 1025, true, api.Call{Flags: 5}, "a")) {
		t.Error(got, told)
	}
	got, told = lines.Parse("cas a 5 0 2147483647 9")
	if told != lines.TdLarge || !reflect.DeepEqual(got, command(api.VbCas, 2147483647, false, api.Call{Flags: 5, Id: 9}, "a")) {
		t.Error(got, told)
	}
}

func TestP29_1Told(t *testing.T) {
	long := strings.Repeat("a", 251)
	for line, want := range map[string]lines.Told{
		"": lines.TdError, "   ": lines.TdError, "GET a": lines.TdError, "Get a": lines.TdError, "get": lines.TdError, "gets": lines.TdError, "bogus a b": lines.TdError, "\tget a": lines.TdError, "get\ta": lines.TdError, "noreply": lines.TdError,
		"get " + strings.Join(many(65), " "): lines.TdError, "set a 5 0": lines.TdError, "set a 5 noreply": lines.TdError, "set a 5 0 1 2": lines.TdError, "set a 5 0 1 noreply noreply": lines.TdError, "set a 5 0 1 NOREPLY": lines.TdError,
		"cas a 1 2 3": lines.TdError, "cas a 1 2 3 4 5": lines.TdError, "delete": lines.TdError, "delete a b": lines.TdError, "delete a noreply noreply": lines.TdError, "touch a": lines.TdError, "touch a 1 2": lines.TdError, "incr a": lines.TdError, "incr a 1 1": lines.TdError,
		"flush_all 1 2": lines.TdError, "flush_all 1 2 noreply": lines.TdError, "version 1": lines.TdError, "version noreply": lines.TdError, "quit quit": lines.TdError,
		"flush_all noreply noreply": lines.TdFormat, "flush_all x": lines.TdFormat, "cas a 1 2 3 noreply": lines.TdFormat, "touch a noreply": lines.TdFormat, "incr a noreply": lines.TdNumber,
		"get " + long: lines.TdFormat, "get a " + long: lines.TdFormat, "get a\x7f": lines.TdFormat, "set " + long + " x x x": lines.TdFormat, "incr " + long + " x": lines.TdFormat, "delete a\r": lines.TdFormat,
		"set a 4294967296 0 1": lines.TdFormat, "set a -1 0 1": lines.TdFormat, "set a 1 9223372036854775808 1": lines.TdFormat, "set a 1 x 1": lines.TdFormat, "set a 5 0 -1": lines.TdFormat, "set a 5 0 2147483648": lines.TdFormat, "set a 5 0 x": lines.TdFormat, "cas a 5 0 1025 x": lines.TdFormat, "cas a 1 2 3 -4": lines.TdFormat,
		"incr a x": lines.TdNumber, "decr a -1": lines.TdNumber, "incr a 18446744073709551616": lines.TdNumber, "set a x 0 1025": lines.TdFormat,
		strings.Repeat(" ", 2049): lines.TdTooLong, "get a" + strings.Repeat(" ", 2044): lines.TdTooLong, strings.Repeat("x", 5000): lines.TdTooLong, strings.Repeat("x", 2048): lines.TdError,
	} {
		if c, told := lines.Parse(line); told != want || !reflect.DeepEqual(c, lines.Command{}) {
			t.Errorf("%.40q: %d %v", line, told, c)
		}
	}
}

func TestP29_2(t *testing.T) {
	for _, c := range []struct {
		c    lines.Command
		line string
	}{
		{command(api.VbGet, -1, false, api.Call{}, "a", "b"), "get a b"},
		{command(api.VbGets, -1, false, api.Call{}, "noreply"), "gets noreply"},
		{command(api.VbSet, 3, true, api.Call{Flags: 5, Exp: -7}, "a"), "set a 5 -7 3 noreply"},
		{command(api.VbCas, 0, false, api.Call{Flags: 5, Exp: math.MinInt64, Id: 9}, "a"), "cas a 5 -9223372036854775808 0 9"},
		{command(api.VbDelete, -1, true, api.Call{}, "noreply"), "delete noreply noreply"},
		{command(api.VbTouch, -1, false, api.Call{}, "a"), "touch a 0"},
		{command(api.VbDecr, -1, true, api.Call{By: math.MaxUint64}, "a"), "decr a 18446744073709551615 noreply"},
		{command(api.VbFlush, -1, true, api.Call{}), "flush_all noreply"},
		{command(api.VbFlush, -1, false, api.Call{Exp: -3}), "flush_all -3"},
		{command(api.VbVersion, -1, false, api.Call{}), "version"},
		{command(api.VbQuit, -1, false, api.Call{}), "quit"},
		{lines.Command{Verb: api.VbQuit, Keys: []string{}, Call: api.Call{Verb: api.VbQuit}, Bytes: -1}, "quit"},
	} {
		if line, ok := lines.Line(c.c); line != c.line || !ok {
			t.Errorf("%v: %q %v", c.c, line, ok)
		}
	}
	wide := make([]string, 8)
	for i := range wide {
		wide[i] = strings.Repeat("a", 250)
	}
	wide[7] = strings.Repeat("a", 2048-4-7*251+0)
	if line, ok := lines.Line(command(api.VbGet, -1, false, api.Call{}, wide[:7]...)); len(line) != 3+7*251 || !ok {
		t.Error(len(line))
	}
	bad := command(api.VbSet, 3, false, api.Call{}, "a")
	bad.Call.Value = "x"
	other := command(api.VbSet, 3, false, api.Call{}, "a")
	other.Call.Key = "b"
	verb := command(api.VbSet, 3, false, api.Call{}, "a")
	verb.Call.Verb = api.VbAdd
	for i, c := range []lines.Command{
		{}, bad, other, verb, command(api.VbNone, -1, false, api.Call{}), command(200, -1, false, api.Call{}, "a"), command(api.VbGet, -1, false, api.Call{}), command(api.VbGet, -1, true, api.Call{}, "a"), command(api.VbGet, 0, false, api.Call{}, "a"),
		command(api.VbGet, -1, false, api.Call{}, many(65)...), command(api.VbGet, -1, false, api.Call{}, "a b"), command(api.VbGet, -1, false, api.Call{}, "a", ""), command(api.VbGet, -1, false, api.Call{Flags: 1}, "a"), command(api.VbSet, -1, false, api.Call{}, "a"),
		command(api.VbSet, 1025, false, api.Call{}, "a"), command(api.VbSet, 3, false, api.Call{Id: 1}, "a"), command(api.VbSet, 3, false, api.Call{}, "a", "b"), command(api.VbSet, 3, false, api.Call{}), command(api.VbDelete, -1, false, api.Call{}, "a", "noreply"), command(api.VbDelete, 1, false, api.Call{}, "a"),
		command(api.VbFlush, -1, false, api.Call{}, "a"), command(api.VbVersion, -1, true, api.Call{}), command(api.VbFlush, -1, false, api.Call{By: 1}), command(api.VbGet, -1, false, api.Call{}, append(wide, "a")...), command(api.VbIncr, -1, false, api.Call{Exp: 4}, "a"),
	} {
		if line, ok := lines.Line(c); line != "" || ok {
			t.Errorf("%d: %q", i, line)
		}
	}
}

func TestP29_3(t *testing.T) {
	words := []string{"get", "set", "cas", "delete", "touch", "incr", "flush_all", "version", "quit", "add", "noreply", "a", "b", "0", "1", "-1", "-0", "007", "1024", "1025", "99999999999", "x\x7f", "18446744073709551615"}
	x, none := uint64(1), 0
	for range 60000 {
		var line []string
		x = x*6364136223846793005 + 1442695040888963407
		for range 1 + x>>60%8 {
			x = x*6364136223846793005 + 1442695040888963407
			pick := words[x>>33%uint64(len(words))]
			if len(line) == 0 {
				pick = words[x>>33%10]
			}
			line = append(line, pick)
		}
		text := strings.Join(line, " ")
		c, told := lines.Parse(text)
		wide, again := lines.Parse("  " + strings.Join(line, "   ") + " ")
		if !reflect.DeepEqual(c, wide) || told != again {
			t.Fatalf("%q: blanks change it", text)
		}
		if told != lines.TdNone {
			continue
		}
		none++
		own, ok := lines.Line(c)
		if back, told := lines.Parse(own); !ok || len(own) > len(text) || told != lines.TdNone || !reflect.DeepEqual(back, c) {
			t.Fatalf("%q: %q", text, own)
		}
		if _, told := lines.Parse(strings.ToUpper(text[:1]) + text[1:]); told != lines.TdError {
			t.Fatalf("%q in other letters: %d", text, told)
		}
	}
	if none < 500 {
		t.Error(none)
	}
}
