package console_test

// The promises of the whole, through all layers.

import (
	"slices"
	"strings"
	"testing"

	"tabor/api"
	"tabor/basics"
	"tabor/disk"
	"tabor/keys"
	"tabor/log"
	"tabor/machine"
	"tabor/meaning"
	"tabor/resp"
	"tabor/runner"
	"tabor/server"
	"tabor/sums"
)

func bounds() api.Bounds { return api.Bounds{Fuel: 500, Cells: 20000, Depth: 50} }

// dice picks.
type dice uint32

func (d *dice) next(n int) int {
	*d = *d*1664525 + 1013904223
	return int(*d>>8) % n
}

func (d *dice) pick(l ...string) string { return l[d.next(len(l))] }

// request makes a request: a command or a script, some that are refused among them.
func (d *dice) request() []string {
	key := d.pick("a", "b", "c", "l")
	scripts := []string{
		"return call('INCR', KEYS[1])", "call('SET', KEYS[1], ARGV[1]) call('RPUSH', 'l', ARGV[1]) return call('LRANGE', 'l', 0, -1)", "call('SET', 'x', 1) error('no')", "for i = 1, 5 do call('SADD', 's', i) end return try('INCR', 's')", "local t = call('KEYS') return #t", "while true do call('INCR', 'n') end", "return 1 +", "return {1, {2, 'x'}, false, {ok = 'FINE'}}", "error('a\\nb')", "call('PEXPIRE', KEYS[1], 4) return call('PTTL', KEYS[1])",
	}
	s := scripts[d.next(len(scripts))]
	lines := []string{"SET " + key + " 5", "SET " + key + " x PX 7", "INCR " + key, "GET " + key, "APPEND " + key + " 1", "DEL " + key, "RPUSH l x y", "LPOP l", "HSET h f 1 g 2", "HGETALL h", "ZADD z 3 m -1 n", "ZRANGE z 0 -1", "MSET a 1 b 2", "KEYS", "FLUSHALL", "FOO", "GET", "PEXPIRE " + key + " 3", "SCRIPT FLUSH", "FUNCTION LIST", "FUNCTION DELETE f", "FCALL f 1 " + key + " v"}
	switch d.next(6) {
	case 0, 1:
		return []string{"EVAL", s, "1", key, "v"}
	case 2:
		return [][]string{{"SCRIPT", "LOAD", s}, {"EVALSHA", sums.Digest([]byte(s)), "1", key, "v"}, {"FUNCTION", "LOAD", "f", s}}[d.next(3)]
	}
	return strings.Fields(lines[d.next(len(lines))])
}

func TestTenExamples(t *testing.T) {
	digest := sums.Digest([]byte("return ARGV[1]"))
	text := func(s string) string {
		return `"$` + map[int]string{1: "1", 3: "3", 5: "5", 40: "40"}[len(s)] + `\x0d\x0a` + s + `\x0d\x0a"`
	}
	ok, nothing := `"+OK\x0d\x0a"`, `"$-1\x0d\x0a"`
	number := func(n string) string { return `":` + n + `\x0d\x0a"` }
	failed := func(s string) string { return `"-` + s + `\x0d\x0a"` }
	play(t, "do 0 SET a 1", ok, "do 0 INCR a", number("2"), "do 0 GET a", text("2"), "do 0 SET b x PX 10", ok, "tick 10", "ok", "do 0 GET b", nothing, "do 0 EXISTS b", number("0"))
	play(t, `do 0 EVAL "return call('INCR', KEYS[1])" 1 a`, number("1"), `do 1 EVAL "return call('INCR', KEYS[1])" 1 a`, number("2"))
	play(t, `do 0 EVAL "call('SET', 'a', 1) error('no')" 0`, failed("no"), "do 0 GET a", text("1"))
	play(t, `do 0 EVAL "while true do call('INCR', 'n') end" 0`, failed("ERR fuel"), "do 0 EXISTS n", number("1"))
	play(t, `do 0 EVAL "return {1, {2, 'x'}, false}" 0`, `"*3\x0d\x0a:1\x0d\x0a*2\x0d\x0a:2\x0d\x0a$1\x0d\x0ax\x0d\x0a$-1\x0d\x0a"`)
	play(t, `do 0 SCRIPT LOAD "return ARGV[1]"`, text(digest), "do 0 EVALSHA "+digest+" 0 hello", text("hello"), "do 0 EVALSHA "+digest[1:]+"0 0 hello", failed("NOSCRIPT"))
	play(t, `do 0 FUNCTION LOAD f "return #KEYS"`, ok, "do 0 FCALL f 2 a b", number("2"), "crash", "ok", "do 0 FCALL f 0", number("0"))
	play(t, "do 0 RPUSH l a b", number("2"), `do 0 EVAL "local t = call('LRANGE', 'l', 0, -1) return concat(t, '-')" 0`, text("a-b"), "do 0 INCR l", failed("WRONGTYPE"))
	play(t, `do 0 EVAL "return 1 +" 0`, failed("ERR compile"), `do 0 EVAL "return 1 / 0" 0`, failed("ERR zero"), "do 0 EVAL x() 0", failed("ERR compile"), "files", "log 0 0 00000000")
	play(t, "do 0 SET a 1", ok, "halt 1", "ok", "do 0 SET a 2", "error 7", "out 0", ok, "crash 20", "ok", "do 0 GET a", text("1"), "halt 0", "ok", "do 1 SET a 3", "error 7", "crash", "ok", "do 0 GET a", text("1"))
}

// TestScripts (P0.1): a script by its instructions, by its tree, and as a request: the same.
func TestScripts(t *testing.T) {
	d := dice(11)
	for range 400 {
		r := runner.New(bounds())
		for range 5 {
			r.Do(0, d.request()...)
		}
		args := d.request()
		if args[0] != "EVAL" {
			continue
		}
		in := api.Running{Keys: []string{args[3]}, Args: []string{"v"}, Now: 3, Fuel: bounds().Fuel, Cells: 20000, Depth: 50}
		tree, instructions := r.Keys(), r.Keys()
		want, e := meaning.Text(tree, args[1], in)
		got, f := machine.Text(instructions, args[1], in)
		reply, record := r.Do(3, args...)
		if e != f || e != api.OK && reply.Text != "ERR compile" {
			t.Fatal(args, e, f, reply)
		}
		if e != api.OK || want.Reply.Text == "ERR fuel" || got.Reply.Text == "ERR fuel" {
			continue
		}
		if !basics.Same(want.Reply, got.Reply) || !basics.Same(want.Reply, reply) || !slices.Equal(want.Effects, got.Effects) || !tree.Same(instructions) || !tree.Same(r.Keys()) || len(record) != 6*len(want.Effects) {
			t.Fatal(args, want.Reply, got.Reply, reply)
		}
	}
}

// TestOneAtATime (P0.2): clients whose bytes come in any pieces and any order are told what a runner tells of the
// requests in the order in which they were done.
func TestOneAtATime(t *testing.T) {
	d := dice(5)
	for range 60 {
		s, _ := server.Open(disk.New(), bounds())
		r := runner.New(bounds())
		var waiting [3][][]string
		var pieces [3][]byte
		var want, got [3]string
		for i := range 60 {
			c := d.next(3)
			args := d.request()
			b, _ := resp.Request(args...)
			waiting[c] = append(waiting[c], args)
			pieces[c] = append(pieces[c], b...)
			c = d.next(3)
			n := d.next(len(pieces[c]) + 1)
			s.Feed(c, pieces[c][:n])
			pieces[c] = pieces[c][n:]
			c = d.next(3)
			if ok, e := s.Step(c, int64(i)); e != api.OK {
				t.Fatal(e)
			} else if ok {
				reply, _ := r.Do(int64(i), waiting[c][0]...)
				waiting[c] = waiting[c][1:]
				b, e := resp.Encode(reply)
				if e != api.OK {
					b = []byte("-ERR reply\r\n")
				}
				want[c] += string(b)
			}
			got[c] += string(s.Take(c))
		}
		if got != want || !s.Runner().Same(r) {
			t.Fatal(got, want)
		}
	}
}

// TestCrashes (P0.3): wherever it is cut off, and whatever is kept: as behind some first requests, all that were
// answered among them.
func TestCrashes(t *testing.T) {
	d := dice(8)
	for range 250 {
		power := disk.New()
		s, e := server.Open(power, bounds())
		if e != api.OK {
			t.Fatal(e)
		}
		behind := s.Runner()
		for range 4 {
			power.Halt(d.next(14))
			next := behind
			for range 8 {
				args := d.request()
				b, _ := resp.Request(args...)
				next = behind.Copy()
				next.Do(1, args...)
				s.Feed(0, b)
				if ok, _ := s.Step(0, 1); !ok {
					break
				}
				behind = next
				if d.next(5) == 0 && s.Rewrite() != api.OK {
					break
				}
			}
			power = power.Crash(d.next(200), d.next(200))
			if s, e = server.Open(power, bounds()); e != api.OK {
				t.Fatal(e)
			}
			if got := s.Runner(); !got.Same(behind) && !got.Same(next) {
				t.Fatal(got.Records(), behind.Records())
			}
			behind = s.Runner()
		}
	}
}

// TestEffects (P0.4): what the log tells makes, on what was, what is.
func TestEffects(t *testing.T) {
	d := dice(21)
	for range 60 {
		power := disk.New()
		s, _ := server.Open(power, bounds())
		k := keys.New()
		for i := range 40 {
			args := d.request()
			b, _ := resp.Request(args...)
			s.Feed(0, b)
			was := s.Runner()
			before, _, _ := log.Look(power)
			if ok, e := s.Step(0, int64(i)); !ok || e != api.OK {
				t.Fatal(ok, e)
			}
			after, _, _ := log.Look(power)
			if len(after) == len(before) && !s.Runner().Same(was) || len(after) > len(before)+1 {
				t.Fatal("no record of what was changed", args)
			}
			_, l := runnerEffects(was, int64(i), args)
			if n, e := k.Apply(l...); n != len(l) || e != api.OK || !k.Same(s.Runner().Keys()) {
				t.Fatal(args, e)
			}
		}
		records, _, _ := log.Look(power)
		r := runner.New(bounds())
		for _, texts := range records {
			if e := r.Replay(texts...); e != api.OK {
				t.Fatal(e)
			}
		}
		if !r.Same(s.Runner()) {
			t.Fatal("the log makes another one")
		}
	}
}

// runnerEffects tells the reply of a request and the effects that its record tells.
func runnerEffects(r *runner.Runner, now int64, args []string) (api.Reply, []api.Effect) {
	reply, record := r.Copy().Do(now, args...)
	var l []api.Effect
	for len(record) > 0 && record[0] == "effect" {
		op, _ := basics.Number(record[1])
		n, _ := basics.Number(record[5])
		l = append(l, api.Effect{Op: api.EffectOp(op), Key: record[2], Name: record[3], Text: record[4], Int: n})
		record = record[6:]
	}
	return reply, l
}

// TestRefusals (P0.5): what is refused is told by its error, and changes nothing.
func TestRefusals(t *testing.T) {
	power := disk.New()
	s, _ := server.Open(power, bounds())
	do := func(texts ...string) string {
		b, e := resp.Request(texts...)
		if e != api.OK {
			t.Fatal(e)
		}
		if len(texts) == 1 && strings.HasPrefix(texts[0], "raw:") {
			b = []byte(texts[0][4:])
		}
		c := 0
		for s.Closed(c) {
			c++
		}
		s.Feed(c, b)
		s.Step(c, 0)
		return string(s.Take(c))
	}
	do("RPUSH", "l", "a", "b")
	do("SET", "a", "x")
	do("FUNCTION", "LOAD", "f", "return 1")
	was, had := s.Runner(), power.Files()
	long := strings.Repeat("x", api.MaxText-3)
	for i, c := range []struct {
		texts []string
		want  string
	}{
		{[]string{"FOO"}, "ERR unknown"}, {[]string{"GET"}, "ERR args"}, {[]string{"INCR", "a"}, "ERR number"}, {[]string{"GET", "l"}, "WRONGTYPE"}, {[]string{"LSET", "l", "2", "x"}, "ERR range"}, {[]string{"SET", "a", "y", "PX", "0"}, "ERR range"}, {[]string{"EVAL", "return +", "0"}, "ERR compile"}, {[]string{"EVAL", "return x", "0"}, "ERR compile"}, {[]string{"EVAL", "char(" + strings.Repeat("1, ", 600) + "1)", "0"}, "ERR compile"}, {[]string{"EVAL", strings.Repeat("do ", 101) + strings.Repeat("end ", 101), "0"}, "ERR compile"}, {[]string{"EVAL", "return 1", "1"}, "ERR range"}, {[]string{"EVALSHA", "x", "0"}, "NOSCRIPT"}, {[]string{"FCALL", "g", "0"}, "ERR function"}, {[]string{"FUNCTION", "LOAD", "a-b", "return 1"}, "ERR name"}, {[]string{"SCRIPT", "LOAD", "return @"}, "ERR compile"}, {[]string{"SCRIPT", "FOO"}, "ERR args"},
		{[]string{"SET", "", long}, "ERR full"}, {[]string{"EVAL", "return {} + 1", "0"}, "ERR type"}, {[]string{"EVAL", "local t = {} t[1] = t return t", "0"}, "ERR reply"}, {[]string{"EVAL", "error('a\\nb')", "0"}, "ERR reply"}, {[]string{"raw:*0"}, "ERR protocol"}, {[]string{"raw:x"}, "ERR protocol"}, {[]string{"raw:*65537"}, "ERR protocol"}, {[]string{"raw:*1\r\n$1048577"}, "ERR protocol"}, {[]string{"raw:*1\r\n$1\r\nabc"}, "ERR protocol"},
	} {
		if got := do(c.texts...); got != "-"+c.want+"\r\n" {
			t.Errorf("%d: %.60q", i, got)
		}
		if !s.Runner().Same(was) || s.Dead() {
			t.Errorf("%d: changed", i)
		}
		if c.want != "ERR full" && i < 16 && !slices.Equal(power.Files(), had) {
			t.Errorf("%d: the disk changed", i)
		}
	}
	if r, _ := server.Open(power.Crash(), bounds()); !r.Runner().Same(was) {
		t.Error("opened again")
	}
}
