package server_test

import (
	"slices"
	"strconv"
	"strings"
	"testing"

	"tabor/api"
	"tabor/disk"
	"tabor/frames"
	"tabor/log"
	"tabor/resp"
	"tabor/runner"
	"tabor/server"
)

func bounds() api.Bounds { return api.Bounds{Fuel: 20000, Cells: 20000, Depth: 50} }

func opened(t *testing.T, d *disk.Disk) *server.Server {
	t.Helper()
	s, e := server.Open(d, bounds())
	if e != api.OK || s == nil {
		t.Fatal(e)
	}
	return s
}

// bytes tells a request's bytes, its texts with | between.
func bytes(line string) []byte {
	b, _ := resp.Request(strings.Split(line, "|")...)
	return b
}

// ask does a request, and tells what the client takes.
func ask(t *testing.T, s *server.Server, client int, now int64, texts ...string) string {
	t.Helper()
	b, _ := resp.Request(texts...)
	if e := s.Feed(client, b); e != api.OK {
		t.Fatal(e)
	}
	if ok, e := s.Step(client, now); !ok || e != api.OK {
		t.Fatal(ok, e)
	}
	return string(s.Take(client))
}

func line(t *testing.T, s *server.Server, l string) string {
	t.Helper()
	return ask(t, s, 0, 0, strings.Split(l, "|")...)
}

func TestExample(t *testing.T) {
	d := disk.New()
	s := opened(t, d)
	if e := s.Feed(0, bytes("SET|a|1")); e != api.OK {
		t.Error(e)
	}
	if ok, e := s.Step(0, 0); !ok || e != api.OK {
		t.Error(ok, e)
	}
	if ok, e := s.Step(0, 0); ok || e != api.OK {
		t.Error(ok, e)
	}
	if got := s.Take(0); string(got) != "+OK\r\n" || s.Take(0) != nil {
		t.Errorf("%q", got)
	}
	if e := s.Feed(1, []byte("*0")); e != api.OK {
		t.Error(e)
	}
	if ok, e := s.Step(1, 0); !ok || e != api.OK || !s.Closed(1) || s.Closed(0) {
		t.Error(ok, e)
	}
	if got := s.Take(1); string(got) != "-ERR protocol\r\n" {
		t.Errorf("%q", got)
	}
	if ok, e := s.Step(1, 0); ok || e != api.ErrClosed || s.Feed(1, nil) != api.ErrClosed {
		t.Error(ok, e)
	}
	d = d.Crash()
	s = opened(t, d)
	if got := line(t, s, "GET|a"); got != "$1\r\n1\r\n" || s.Closed(1) {
		t.Errorf("%q", got)
	}
	d.Halt(0)
	s.Feed(0, bytes("SET|a|2"))
	if ok, e := s.Step(0, 0); ok || e != api.ErrDisk || !s.Dead() {
		t.Error(ok, e)
	}
	if ok, e := s.Step(0, 0); ok || e != api.ErrDead || s.Feed(0, bytes("GET|a")) != api.ErrDead || s.Take(0) != nil || s.Rewrite() != api.ErrDead {
		t.Error(ok, e)
	}
	if reply, _ := s.Runner().Do(0, "GET", "a"); reply.Text != "1" {
		t.Error("the runner does not stay", reply)
	}
}

func TestPieces(t *testing.T) {
	var all []byte
	want := ""
	for i := range 20 {
		all = append(all, bytes("INCRBY|n|"+strconv.Itoa(i))...)
		all = append(all, bytes("EVAL|return {KEYS[1], 'x'}|1|k")...)
		want += ":" + strconv.Itoa(i*(i+1)/2) + "\r\n*2\r\n$1\r\nk\r\n$1\r\nx\r\n"
	}
	for _, size := range []int{1, 2, 7, 100, len(all)} {
		s := opened(t, disk.New())
		got := ""
		for b := all; len(b) > 0; b = b[min(size, len(b)):] {
			piece := slices.Clone(b[:min(size, len(b))])
			s.Feed(3, piece)
			clear(piece)
			for {
				ok, e := s.Step(3, 0)
				if e != api.OK {
					t.Fatal(e)
				}
				if !ok {
					break
				}
				got += string(s.Take(3))
			}
		}
		if got != want {
			t.Fatal("pieces of", size)
		}
	}
}

func TestClients(t *testing.T) {
	s := opened(t, disk.New())
	for c := range api.MaxClients {
		s.Feed(c, bytes("INCR|n"))
		s.Feed(c, bytes("GET|n"))
	}
	for c := api.MaxClients - 1; c >= 0; c-- {
		s.Step(c, 0)
	}
	for c := range api.MaxClients {
		s.Step(c, 0)
		if got := string(s.Take(c)); got != ":"+strconv.Itoa(api.MaxClients-c)+"\r\n$2\r\n16\r\n" {
			t.Errorf("%d %q", c, got)
		}
	}
	for _, c := range []int{-1, api.MaxClients, 1 << 40, -1 << 40} {
		if ok, e := s.Step(c, 0); ok || e != api.ErrArg || s.Feed(c, nil) != api.ErrArg || s.Take(c) != nil || s.Closed(c) {
			t.Error(c, ok, e)
		}
	}
	s.Feed(0, bytes("GET|n"))
	s.Feed(0, []byte("x"))
	s.Step(0, 0)
	s.Step(0, 0)
	if got := string(s.Take(0)); got != "$2\r\n16\r\n-ERR protocol\r\n" || !s.Closed(0) {
		t.Errorf("%q", got)
	}
	if got := ask(t, s, 1, 5, "SET", "t", "x", "PX", "3"); got != "+OK\r\n" {
		t.Error(got)
	}
	if got := ask(t, s, 2, 7, "GET", "t") + ask(t, s, 3, 8, "GET", "t"); got != "$1\r\nx\r\n$-1\r\n" {
		t.Error(got)
	}
}

func TestReplies(t *testing.T) {
	d := disk.New()
	s := opened(t, d)
	for i, c := range [][2]string{
		{"FOO", "-ERR unknown|"}, {"GET", "-ERR args|"}, {"EVAL|return {1, {2, 'x'}, false}|0", "*3|:1|*2|:2|$1|x|$-1|"}, {"EVAL|error('a\\nb')|0", "-ERR reply|"}, {"EVAL|call('SET', 'a', 1) error('a\\rb')|0", "-ERR reply|"}, {"GET|a", "$1|1|"}, {"SCRIPT|LOAD|return 1", "$40|e0e1f9fabfc9d4800c877a703b823ac0578ff8db|"}, {"EVALSHA|e0e1f9fabfc9d4800c877a703b823ac0578ff8db|0", ":1|"}, {"FUNCTION|LOAD|f|return #KEYS", "+OK|"}, {"FCALL|f|2|a|b", ":2|"}, {"RPUSH|l|a|b", ":2|"}, {"INCR|l", "-WRONGTYPE|"},
	} {
		if got := line(t, s, c[0]); got != strings.ReplaceAll(c[1], "|", "\r\n") {
			t.Errorf("%d %q", i, got)
		}
	}
	had := d.Steps()
	for _, l := range []string{"GET|a", "EVAL|return 1|0", "FOO", "DEL|none", "SCRIPT|LOAD|return 1", "FCALL|f|0"} {
		line(t, s, l)
	}
	if d.Steps() != had {
		t.Error("what changes nothing does a step")
	}
	line(t, s, "EVAL|call('INCR', 'n') call('RPUSH', 'm', 1, 2)|0")
	if d.Steps() != had+2 {
		t.Error("a request is more than one record", d.Steps()-had)
	}
	records, _, _ := log.Look(d)
	if last := records[len(records)-1]; !slices.Equal(last, strings.Split("effect|2|n||1|0|effect|8|m||1|0|effect|8|m||2|0", "|")) {
		t.Error(last)
	}
	s = opened(t, d.Crash())
	if got := line(t, s, "FCALL|f|0"); got != ":0\r\n" {
		t.Error(got)
	}
	if got := line(t, s, "EVALSHA|e0e1f9fabfc9d4800c877a703b823ac0578ff8db|0"); got != ":1\r\n" {
		t.Error(got)
	}
	if got := line(t, s, "LRANGE|m|0|-1"); got != "*2\r\n$1\r\n1\r\n$1\r\n2\r\n" {
		t.Error(got)
	}
}

func TestRewrite(t *testing.T) {
	d := disk.New()
	s := opened(t, d)
	for i := range 50 {
		line(t, s, "SET|a|"+strconv.Itoa(i))
	}
	was := s.Runner()
	records, before, _ := log.Look(d)
	if len(records) != 50 || s.Rewrite() != api.OK {
		t.Error(len(records))
	}
	records, after, _ := log.Look(d)
	if len(records) != 1 || after >= before || !s.Runner().Same(was) || !opened(t, d.Crash()).Runner().Same(was) {
		t.Error(records)
	}
	d.Halt(1)
	if s.Dead() || s.Rewrite() != api.ErrDisk || !s.Dead() || s.Rewrite() != api.ErrDead {
		t.Error("dead")
	}
}

func TestFull(t *testing.T) {
	d := disk.New()
	s := opened(t, d)
	big := strings.Repeat("x", 400000)
	for i := range 6 { // the log is laid anew when it is full: what was there before is not kept
		if got := ask(t, s, 0, 0, "SET", "a", big+strconv.Itoa(i)); got != "+OK\r\n" {
			t.Fatal(i, got)
		}
	}
	if got := ask(t, s, 0, 0, "SET", "b", big); got != "+OK\r\n" {
		t.Fatal(got)
	}
	was := s.Runner()
	if got := ask(t, s, 0, 0, "SET", "c", big); got != "-ERR full\r\n" || s.Dead() || !s.Runner().Same(was) {
		t.Fatal(got)
	}
	if got := ask(t, s, 0, 0, "EVAL", "call('SET', 'c', rep('y', 300000)) return 1", "0"); got != "-ERR full\r\n" || !s.Runner().Same(was) {
		t.Fatal(got)
	}
	if got := ask(t, s, 0, 0, "DEL", "b") + ask(t, s, 0, 0, "SET", "c", big) + ask(t, s, 0, 0, "STRLEN", "c"); got != ":1\r\n+OK\r\n:400000\r\n" {
		t.Fatal(got)
	}
	if !opened(t, d.Crash()).Runner().Same(s.Runner()) {
		t.Error("opened again")
	}
	var args []string
	for i := range 11000 { // more texts than a record may have
		args = append(args, strconv.Itoa(i))
	}
	if got := ask(t, s, 0, 0, append([]string{"RPUSH", "l"}, args...)...); got != "-ERR full\r\n" {
		t.Error(got)
	}
	ask(t, s, 0, 0, "FLUSHALL")
	for _, part := range [][]string{args[:5000], args[5000:10000], args[10000:]} {
		if got := ask(t, s, 0, 0, append([]string{"RPUSH", "l"}, part...)...); !strings.HasPrefix(got, ":") {
			t.Error(got)
		}
	}
	if s.Rewrite() != api.ErrLong || s.Dead() {
		t.Error("Rewrite of what has no record")
	}
}

func TestOpen(t *testing.T) {
	if s, e := server.Open(nil, bounds()); s != nil || e != api.ErrNil {
		t.Error(e)
	}
	if s, e := server.Open(&disk.Disk{}, bounds()); s != nil || e != api.ErrNil {
		t.Error(e)
	}
	d := disk.New()
	d.Halt(1)
	if s, e := server.Open(d, bounds()); s != nil || e != api.ErrDisk {
		t.Error(e)
	}
	for i, texts := range [][]string{{"x"}, {"effect"}, {"unload", "f"}, {"effect", "1", "a", "", "", "0"}} {
		a, _ := frames.Put("put", "x")
		b, _ := frames.Put(texts...)
		d, _ := disk.From(api.File{Name: "log", Bytes: string(a) + string(b)})
		if s, e := server.Open(d, bounds()); s != nil || e != api.ErrLog {
			t.Error(i, e)
		}
	}
	s, e := server.Open(disk.New(), api.Bounds{Fuel: 5, Cells: 5, Depth: 1})
	if e != api.OK || line(t, s, "EVAL|while true do end|0") != "-ERR fuel\r\n" {
		t.Error("bounds")
	}
	a, _ := frames.Put("effect", "2", "a", "", "x", "0")
	d, _ = disk.From(api.File{Name: "log", Bytes: string(a) + "torn"})
	if got := line(t, opened(t, d), "GET|a"); got != "$1\r\nx\r\n" {
		t.Error(got)
	}
}

// TestCrash: wherever the power goes, and whatever of the disk's bytes is kept, the server is as behind some first
// requests, all that were answered among them.
func TestCrash(t *testing.T) {
	requests := strings.Split("SET|a|1;EVAL|call('INCR', 'a') call('INCR', 'b') call('RPUSH', 'l', 'x')|0;GET|a;SCRIPT|LOAD|return 1;MSET|p|1|q|2;FUNCTION|LOAD|f|return 2;HSET|h|f|v|g|w;DEL|p;SCRIPT|FLUSH;ZADD|z|1|m", ";")
	states := []*runner.Runner{runner.New(bounds())}
	for _, l := range requests {
		r := states[len(states)-1].Copy()
		r.Do(0, strings.Split(l, "|")...)
		states = append(states, r)
	}
	for halt := range 25 {
		for _, keep := range []int{0, 1, 7, 8, 20, 60, 1000} {
			for _, rewrite := range []int{-1, 4} {
				d := disk.New()
				s := opened(t, d)
				d.Halt(halt)
				answered := 0
				for i, l := range requests {
					if i == rewrite {
						s.Rewrite()
					}
					if s.Feed(0, bytes(l)) != api.OK {
						break
					}
					if ok, _ := s.Step(0, 0); !ok {
						break
					}
					if s.Take(0) == nil {
						t.Fatal("no reply")
					}
					answered++
				}
				if !s.Runner().Same(states[answered]) {
					t.Fatal(halt, "the runner is not as behind what was answered")
				}
				got := opened(t, d.Crash(keep, 1000-keep)).Runner()
				if !got.Same(states[answered]) && (answered == len(requests) || !got.Same(states[answered+1])) {
					t.Fatal(halt, keep, answered)
				}
			}
		}
	}
}

func TestNil(t *testing.T) {
	for _, s := range []*server.Server{nil, {}} {
		ok, e := s.Step(-1, 0)
		if ok || e != api.ErrNil || s.Feed(99, nil) != api.ErrNil || s.Take(0) != nil || s.Closed(0) || s.Rewrite() != api.ErrNil || s.Dead() || s.Runner() != nil {
			t.Error("zero answers", e)
		}
	}
	s := opened(t, disk.New())
	line(t, s, "SET|a|1")
	s.Runner().Do(0, "SET", "a", "2")
	if got := line(t, s, "GET|a"); got != "$1\r\n1\r\n" {
		t.Error("Runner is no copy", got)
	}
}
