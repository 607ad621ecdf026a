package script_test

import (
	"slices"
	"strings"
	"testing"

	"tabor/api"
	"tabor/disk"
	"tabor/resp"
	"tabor/script"
	"tabor/server"
)

func bounds() api.Bounds { return api.Bounds{Fuel: 2000, Cells: 2000, Depth: 20} }

func feed(client int, text string) api.Event {
	return api.Event{Kind: api.EventFeed, Client: client, Text: text}
}
func step(client int) api.Event { return api.Event{Kind: api.EventStep, Client: client} }
func tick(n int) api.Event      { return api.Event{Kind: api.EventTick, N: n} }
func halt(n int) api.Event      { return api.Event{Kind: api.EventHalt, N: n} }
func crash(keep ...int) api.Event {
	return api.Event{Kind: api.EventCrash, Keep: keep}
}
func rewrite() api.Event { return api.Event{Kind: api.EventRewrite} }

// request feeds a request, its texts with | between.
func request(client int, line string) api.Event {
	b, _ := resp.Request(strings.Split(line, "|")...)
	return feed(client, string(b))
}

func alike(a, b api.Event) bool {
	return a.Kind == b.Kind && a.Client == b.Client && a.Text == b.Text && a.N == b.N && slices.Equal(a.Keep, b.Keep)
}

func TestExample(t *testing.T) {
	for raw, want := range map[string][]api.Event{
		"\x01\x02ab\x02\x0b\x05": {feed(0, "ab"), step(0), tick(5)}, "\x09\xffa": {feed(1, "a")}, "\x07": {step(0)}, "\x00\x05\x02\x09": {step(0), crash(9)}, "": nil,
		"\x01": {feed(0, "")}, "\x03": {tick(0)}, "\x04": {halt(0)}, "\x05": {crash()}, "\x06": {rewrite()}, "\xfb\xff": {tick(255)}, "\xfc\x07": {halt(7)}, "\xfd\xff\x01\x02\x03\x04": {crash(1, 2, 3), halt(0)}, "\x05\x04\x02": {crash(), step(0)}, "\x05\x03\x01": {crash(1)}, "\xfe\xff": {rewrite(), step(15)}, "\xf9\x01xy": {feed(15, "x"), feed(15, "")}, "\x79\x00": {feed(15, "")}, "\x81\x00": {feed(0, "")}, "\xf8": {step(15)}, "\x0f": {step(1)}, "\x08": {step(1)}, "\x0a": {step(1)}, "\x7a": {step(15)}, "\x8a": {step(1)},
	} {
		if got := script.Events([]byte(raw)); !slices.EqualFunc(got, want, alike) {
			t.Errorf("%x: %v", raw, got)
		}
	}
	o := script.Play(bounds(), feed(3, "*0"), step(3))
	if o.Outs[3] != "-ERR protocol\r\n" || !o.Closed[3] || o.Closed[2] || o.Outs[2] != "" || len(o.Outs) != api.MaxClients || len(o.Closed) != api.MaxClients {
		t.Error(o)
	}
}

func TestCheck(t *testing.T) {
	long := strings.Repeat("x", 255)
	good := []api.Event{feed(0, ""), feed(15, long), feed(7, "\x00\xff"), step(0), step(15), tick(0), tick(255), halt(0), halt(255), crash(), crash(0), crash(1, 2, 255), rewrite(), {Kind: api.EventStep, Keep: []int{}}}
	for i, e := range good {
		if script.Check(e) != api.OK {
			t.Error("good", i)
		}
	}
	raw, e := script.Raw(good...)
	if got := script.Events(raw); e != api.OK || !slices.EqualFunc(got, good, alike) {
		t.Error(e, got)
	}
	if raw, _ := script.Raw(feed(1, "ab"), step(2), tick(5), halt(255), crash(7, 9), rewrite(), crash()); string(raw) != "\x09\x02ab\x12\x03\x05\x04\xff\x05\x02\x07\x09\x06\x05\x00" {
		t.Errorf("%x", raw)
	}
	if raw, e := script.Raw(); len(raw) != 0 || e != api.OK {
		t.Error(raw, e)
	}
	s := script.New(bounds())
	was := s.Outcome()
	for i, e := range []api.Event{
		{}, {Kind: -1}, {Kind: 7}, {Kind: 9}, feed(-1, ""), feed(16, ""), feed(0, long+"x"), {Kind: api.EventFeed, N: 1}, {Kind: api.EventFeed, Keep: []int{1}}, step(-1), step(16), {Kind: api.EventStep, Text: "x"}, {Kind: api.EventStep, N: 1}, {Kind: api.EventStep, Keep: []int{0}}, tick(-1), tick(256), {Kind: api.EventTick, Client: 1}, {Kind: api.EventTick, Text: "x"}, {Kind: api.EventTick, Keep: []int{1}}, halt(-1), halt(256), {Kind: api.EventHalt, Client: 1}, {Kind: api.EventHalt, Text: "x"},
		crash(1, 2, 3, 4), crash(-1), crash(0, 256), {Kind: api.EventCrash, N: 1}, {Kind: api.EventCrash, Client: 1}, {Kind: api.EventCrash, Text: "x"}, {Kind: api.EventRewrite, Client: 1}, {Kind: api.EventRewrite, N: 1}, {Kind: api.EventRewrite, Text: "x"}, {Kind: api.EventRewrite, Keep: []int{1}},
	} {
		raw, why := script.Raw(tick(1), e, tick(2))
		if script.Check(e) != api.ErrEvent || raw != nil || why != api.ErrEvent || s.Do(e) != api.ErrEvent || !script.Same(s.Outcome(), was) {
			t.Error("bad", i)
		}
	}
}

func TestSession(t *testing.T) {
	s := script.New(bounds())
	do := func(want api.Errno, l ...api.Event) {
		t.Helper()
		for i, e := range l {
			if got := s.Do(e); got != want {
				t.Error(i, e.Kind, got)
			}
		}
	}
	outs := func(client int, want string) {
		t.Helper()
		if got := s.Outcome().Outs[client]; got != want {
			t.Errorf("%q, not %q", got, want)
		}
	}
	do(api.OK, request(0, "SET|a|x|PX|10"), step(0), tick(9), request(1, "GET|a"), step(1), tick(1), request(1, "GET|a"), step(1), step(1))
	outs(0, "+OK\r\n")
	outs(1, "$1\r\nx\r\n$-1\r\n")
	o := s.Outcome()
	if o.Now != 10 || o.Crashes != 0 || o.Dead || len(o.Files) != 1 || o.Files[0].Name != "log" || o.Files[0].Synced != len(o.Files[0].Bytes) {
		t.Error(o)
	}
	do(api.OK, request(0, "SET|a|y"), step(0), feed(2, "x"), step(2), rewrite())
	do(api.ErrClosed, feed(2, "x"), step(2))
	do(api.OK, halt(1), request(0, "SET|a|z"))
	do(api.ErrDisk, step(0))
	do(api.ErrDead, step(0), feed(0, ""), rewrite(), step(2), feed(2, ""))
	do(api.OK, tick(5), halt(3))
	if o := s.Outcome(); !o.Dead || !o.Closed[2] || o.Now != 15 {
		t.Error(o)
	}
	outs(0, "+OK\r\n+OK\r\n")
	do(api.OK, crash(3))
	if o := s.Outcome(); o.Dead || o.Closed[2] || o.Crashes != 1 || o.Now != 15 {
		t.Error(o)
	}
	outs(0, "")
	outs(2, "")
	do(api.OK, request(0, "GET|a"), step(0), crash(), crash(1, 2, 3))
	outs(0, "")
	do(api.OK, request(0, "GET|a"), step(0))
	outs(0, "$1\r\ny\r\n")
	if o := s.Outcome(); o.Crashes != 3 {
		t.Error(o.Crashes)
	}
	do(api.OK, request(0, "SET|a|w"), halt(1))
	do(api.ErrDisk, step(0))
	do(api.OK, crash(255), request(0, "GET|a"), step(0))
	outs(0, "$1\r\nw\r\n")
	o = s.Outcome()
	o.Outs[0], o.Closed[0] = "changed", true
	if got := s.Outcome(); got.Outs[0] == "changed" || got.Closed[0] {
		t.Error("an outcome shares memory")
	}
}

func TestPlay(t *testing.T) {
	x := uint32(9)
	next := func(n int) int {
		x = x*1664525 + 1013904223
		return int(x>>8) % n
	}
	lines := strings.Split("SET|a|1;INCR|a;GET|a;RPUSH|l|x;EVAL|return call('INCR', 'n')|0;EVAL|while true do call('INCR', 'n') end|0;FOO;SCRIPT|LOAD|return 1;LRANGE|l|0|-1", ";")
	for range 150 {
		var l []api.Event
		for range 60 {
			switch next(12) {
			case 0:
				l = append(l, tick(next(20)))
			case 1:
				l = append(l, halt(next(10)))
			case 2:
				l = append(l, crash(next(60), next(60)))
			case 3:
				l = append(l, rewrite())
			case 4:
				l = append(l, feed(next(3), []string{"*", "*1\r\n$4\r\nKEYS\r\n", "x"}[next(3)]))
			default:
				c := next(3)
				l = append(l, request(c, lines[next(len(lines))]), step(c))
			}
		}
		s := script.New(bounds())
		for _, e := range l {
			s.Do(e)
		}
		played := script.Play(bounds(), l...)
		raw, e := script.Raw(l...)
		if e != api.OK || !script.Same(s.Outcome(), played) || !script.Same(script.Play(bounds(), script.Events(raw)...), played) {
			t.Fatal("Play is not Do of each", e)
		}
		d, _ := disk.From(played.Files...)
		if _, e := server.Open(d.Crash(next(9)), bounds()); e != api.OK {
			t.Fatal("not to be opened", e)
		}
	}
	for range 300 {
		raw := make([]byte, next(200))
		for i := range raw {
			raw[i] = byte(next(256))
		}
		was := slices.Clone(raw)
		l := script.Events(raw)
		again, e := script.Raw(l...)
		if e != api.OK || !slices.EqualFunc(script.Events(again), l, alike) || !slices.Equal(raw, was) {
			t.Fatalf("%x: %v", raw, e)
		}
		script.Play(bounds(), l...)
	}
}

func TestSame(t *testing.T) {
	file := []api.File{{Name: "a"}}
	all := []api.Outcome{{}, {Now: 1}, {Crashes: 1}, {Outs: []string{""}}, {Outs: []string{"x"}}, {Closed: []bool{false}}, {Closed: []bool{true}}, {Dead: true}, {Files: file}, {Files: []api.File{{Name: "b"}}}, {Files: []api.File{{Name: "a", Synced: 1}}}}
	for i, a := range all {
		for j, b := range all {
			if script.Same(a, b) != (i == j) {
				t.Error(i, j)
			}
		}
	}
	if !script.Same(api.Outcome{}, api.Outcome{Outs: []string{}, Closed: []bool{}, Files: []api.File{}}) {
		t.Error("nil and empty")
	}
}

func TestNil(t *testing.T) {
	for _, s := range []*script.Session{nil, {}} {
		if s.Do(api.Event{}) != api.ErrNil || s.Do(tick(1)) != api.ErrNil || !script.Same(s.Outcome(), api.Outcome{}) || s.Outcome().Outs != nil {
			t.Error("zero answers")
		}
	}
}
