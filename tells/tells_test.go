package tells_test

import (
	"strconv"
	"strings"
	"testing"

	"nestbox/api"
	"nestbox/lines"
	"nestbox/tells"
)

func ofLines() []string {
	return []string{"", "ERROR\r\n", "CLIENT_ERROR bad command line format\r\n", "CLIENT_ERROR line too long\r\n", "CLIENT_ERROR invalid numeric delta argument\r\n", "SERVER_ERROR object too large for cache\r\n", "CLIENT_ERROR bad data chunk\r\n", "", ""}
}

func ofAnswers() []string {
	return []string{"", "STORED\r\n", "NOT_STORED\r\n", "EXISTS\r\n", "NOT_FOUND\r\n", "SERVER_ERROR out of memory storing object\r\n", "DELETED\r\n", "TOUCHED\r\n", "12\r\n", "CLIENT_ERROR cannot increment or decrement non-numeric value\r\n", "OK\r\n", "", "", "", ""}
}

func TestP31_1(t *testing.T) {
	for i, want := range ofLines() {
		if got := tells.Of(lines.Told(i)); got != want {
			t.Error(i, got)
		}
	}
	if tells.Of(255) != "" || len(tells.Of(lines.TdError)) != 7 {
		t.Error("of none")
	}
}

func TestP31_2(t *testing.T) {
	for i, want := range ofAnswers() {
		for _, v := range []api.Verb{api.VbNone, api.VbSet, api.VbIncr, api.VbGet} {
			a := api.Answer{Kind: api.AnKind(i), Number: 12, Item: api.Item{Key: "k"}}
			if got := tells.Answer(lines.Command{Verb: v}, a); got != want {
				t.Error(i, got)
			}
			if got := tells.Answer(lines.Command{Verb: v, Quiet: true}, a); got != "" {
				t.Error("quiet", got)
			}
		}
	}
	for n, want := range map[uint64]string{0: "0\r\n", 1<<64 - 1: "18446744073709551615\r\n"} {
		if got := tells.Answer(lines.Command{}, api.Answer{Kind: api.AnNumber, Number: n}); got != want {
			t.Error(got)
		}
	}
	if tells.Answer(lines.Command{}, api.Answer{Kind: 255}) != "" {
		t.Error("of none")
	}
}

func TestP31_3(t *testing.T) {
	hit := api.Answer{Kind: api.AnHit, Item: api.Item{Key: "a", Flags: 5, Value: "xyz", Id: 9, Dies: 4, Gen: 3}}
	gets, get := lines.Command{Verb: api.VbGets}, lines.Command{Verb: api.VbGet}
	if got := tells.Value(gets, hit); got != "VALUE a 5 3 9\r\nxyz\r\n" || len(got) != 20 {
		t.Errorf("%q", got)
	}
	if got := tells.Value(get, hit); got != "VALUE a 5 3\r\nxyz\r\n" {
		t.Errorf("%q", got)
	}
	if got := tells.Value(lines.Command{Verb: api.VbSet, Quiet: true}, hit); got != "VALUE a 5 3\r\nxyz\r\n" {
		t.Errorf("%q", got)
	}
	if got := tells.Value(gets, api.Answer{Kind: api.AnHit, Item: api.Item{Key: "k", Flags: 1<<32 - 1, Id: 1<<64 - 1}}); got != "VALUE k 4294967295 0 18446744073709551615\r\n\r\n" {
		t.Errorf("%q", got)
	}
	for k := range api.AnKind(20) {
		if k != api.AnHit && tells.Value(gets, api.Answer{Kind: k, Item: hit.Item}) != "" {
			t.Error(k)
		}
	}
}

func TestP31_4And5(t *testing.T) {
	if tells.End() != "END\r\n" || tells.Version() != "VERSION nestbox 1\r\n" {
		t.Error(tells.End(), tells.Version())
	}
	seen := map[string]bool{"": true}
	all := []string{tells.End(), tells.Version()}
	for i := range 8 {
		all = append(all, tells.Of(lines.Told(i)))
	}
	for i := range 14 {
		all = append(all, tells.Answer(lines.Command{}, api.Answer{Kind: api.AnKind(i), Number: 7}))
	}
	unlike := 0
	for _, l := range all {
		if l == "" {
			continue
		}
		if seen[l] || strings.Count(l, "\r") != 1 || strings.Count(l, "\n") != 1 || !strings.HasSuffix(l, "\r\n") {
			t.Errorf("%q", l)
		}
		seen[l] = true
		unlike++
	}
	if unlike != 2+6+10 {
		t.Error(unlike)
	}
	for _, value := range []string{"", "\r\n", "END\r\n", "\r\nVALUE a 1 1\r\n", strings.Repeat("\n", 1024)} {
		got := tells.Value(lines.Command{Verb: api.VbGets}, api.Answer{Kind: api.AnHit, Item: api.Item{Key: "key", Value: value, Id: 4}})
		line, rest, _ := strings.Cut(got, "\r\n")
		n, err := strconv.Atoi(strings.Split(line, " ")[3])
		if err != nil || rest[:n] != value || rest[n:] != "\r\n" {
			t.Errorf("%q", got)
		}
	}
}
