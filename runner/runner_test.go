package runner_test

import (
	"slices"
	"strconv"
	"strings"
	"testing"

	"tabor/api"
	"tabor/basics"
	"tabor/cache"
	"tabor/keys"
	"tabor/meaning"
	"tabor/runner"
	"tabor/sums"
)

// told writes a reply in short.
func told(r api.Reply) string {
	switch r.Kind {
	case api.ReplyNone:
		return "nil"
	case api.ReplyStatus:
		return "+" + r.Text
	case api.ReplyError:
		return "-" + r.Text
	case api.ReplyInt:
		return strconv.FormatInt(r.Int, 10)
	case api.ReplyText:
		return "'" + r.Text + "'"
	}
	var l []string
	for _, x := range r.List {
		l = append(l, told(x))
	}
	return "[" + strings.Join(l, " ") + "]"
}

func made() *runner.Runner {
	return runner.New(api.Bounds{Fuel: 100000, Cells: 100000, Depth: 50})
}

// done does a request, and holds its record against what it changed.
func done(t *testing.T, r *runner.Runner, now int64, args ...string) (string, []string) {
	t.Helper()
	was := r.Copy()
	reply, record := r.Do(now, args...)
	if e := was.Replay(record...); e != api.OK || !was.Same(r) {
		t.Fatalf("%.60q: the record %.60q: %v", args, record, e)
	}
	again := made()
	for _, l := range r.Records() {
		if e := again.Replay(l...); e != api.OK {
			t.Fatalf("%.60q: Records: %v", args, e)
		}
	}
	if !again.Same(r) {
		t.Fatalf("%.60q: Records make another one", args)
	}
	return told(reply), record
}

// play does requests; each has its texts, with | between, its reply in short and its record, with | between.
func play(t *testing.T, r *runner.Runner, now int64, rows ...[3]string) {
	t.Helper()
	for i, c := range rows {
		reply, record := done(t, r, now, strings.Split(c[0], "|")...)
		if got := strings.Join(record, "|"); reply != c[1] || got != c[2] && c[2] != "*" {
			t.Errorf("%d %s: %s (%s)", i, c[0], reply, got)
		}
	}
}

func digest(s string) string { return sums.Digest([]byte(s)) }

func TestScripts(t *testing.T) {
	one := digest("return 1")
	play(t, made(), 0, [][3]string{
		{"EVAL|return call('SET', KEYS[1], ARGV[1])|1|k|v", "+OK", "effect|2|k||v|0"}, {"SCRIPT|LOAD|return 1", "'" + one + "'", "put|return 1"}, {"EVALSHA|" + one + "|0", "1", ""}, {"EVAL|return|1", "-ERR range", ""}, {"EVAL|x|0", "-ERR compile", ""}, {"FCALL|f|0", "-ERR function", ""}, {"GET|k", "'v'", ""},
		{"eval|return #KEYS * 10 + #ARGV|2|a|b|c", "21", ""}, {"EVAL|return KEYS|3|a|b|c", "['a' 'b' 'c']", ""}, {"EVAL|return ARGV|0|a|b", "['a' 'b']", ""}, {"EVAL|return #KEYS + #ARGV|0", "0", ""}, {"EVAL|call('SET', 'a', 1) error('no')|0", "-no", "effect|2|a||1|0"}, {"GET|a", "'1'", ""}, {"EVAL|call('INCR', 'a') call('RPUSH', 'l', 'x')|0", "nil", "effect|2|a||2|0|effect|8|l||x|0"},
		{"EVAL|return 1 / 0|0", "-ERR zero", ""}, {"EVAL|return 1 +|0", "-ERR compile", ""}, {"EVAL|x()|0", "-ERR compile", ""}, {"EVAL|break|0", "-ERR compile", ""}, {"EVAL|local b do local function f() return f(1) end end|0", "-ERR compile", ""}, {"SCRIPT|LOAD|local b while nil do local function f() KEYS = 1 end end", "-ERR compile", ""}, {"EVAL|return call('EVAL', 'return 1', 0)|0", "-ERR unknown", ""}, {"EVAL|return {1, {2, 'x'}, false}|0", "[1 [2 'x'] nil]", ""},
		{"EVAL", "-ERR args", ""}, {"EVAL|return 1", "-ERR args", ""}, {"EVAL|return 1|x", "-ERR number", ""}, {"EVAL|return 1|01", "-ERR number", ""}, {"EVAL|return 1|-1", "-ERR range", ""}, {"EVAL|return +|2|a", "-ERR range", ""}, {"EVAL|return +|x|a", "-ERR number", ""}, {"EVAL|return 1|9223372036854775807", "-ERR range", ""}, {"EVAL|return 1|1|a|b", "1", ""},
		{"EVALSHA", "-ERR args", ""}, {"EVALSHA|" + one, "-ERR args", ""}, {"EVALSHA|x|0", "-NOSCRIPT", ""}, {"EVALSHA|x|1", "-ERR range", ""}, {"EVALSHA|" + strings.ToUpper(one) + "|0", "-NOSCRIPT", ""}, {"evalsha|" + one + "|x", "-ERR number", ""}, {"FCALL", "-ERR args", ""}, {"FCALL|f", "-ERR args", ""}, {"FCALL|f|2|a", "-ERR range", ""}, {"FCALL|a-b|0", "-ERR function", ""}, {"EVALSHA|" + digest("return 2") + "|0", "-NOSCRIPT", ""},
	}...)
}

func TestCache(t *testing.T) {
	one, two := digest("return 1"), digest("return 2")
	r := made()
	play(t, r, 0, [][3]string{
		{"SCRIPT|FLUSH", "+OK", ""}, {"script|LOAD|return 1", "'" + one + "'", "put|return 1"}, {"SCRIPT|LOAD|return 1", "'" + one + "'", ""}, {"SCRIPT|LOAD|return +", "-ERR compile", ""}, {"SCRIPT|LOAD|return a", "-ERR compile", ""}, {"SCRIPT|EXISTS|" + one + "|" + two + "|x|" + one, "[1 0 0 1]", ""}, {"SCRIPT|LOAD|return 2", "'" + two + "'", "put|return 2"}, {"SCRIPT|LOAD|", "'" + digest("") + "'", "put|"},
		{"FUNCTION|LOAD|f|return #KEYS", "+OK", "load|f|return #KEYS"}, {"FCALL|f|2|a|b", "2", ""}, {"fcall|f|0|a", "0", ""}, {"FUNCTION|LOAD|f|return #KEYS", "+OK", ""}, {"FUNCTION|LOAD|f|return call('INCR', 'n')", "+OK", "load|f|return call('INCR', 'n')"}, {"FCALL|f|0", "1", "effect|2|n||1|0"}, {"FUNCTION|LOAD|b|", "+OK", "load|b|"}, {"FUNCTION|LIST", "['b' 'f']", ""}, {"FUNCTION|LOAD|a-b|return 1", "-ERR name", ""}, {"FUNCTION|LOAD|a-b|return +", "-ERR name", ""}, {"FUNCTION|LOAD|c|return +", "-ERR compile", ""}, {"FUNCTION|LOAD||return 1", "-ERR name", ""},
		{"SCRIPT|FLUSH", "+OK", "flush"}, {"SCRIPT|FLUSH", "+OK", ""}, {"EVALSHA|" + one + "|0", "-NOSCRIPT", ""}, {"SCRIPT|EXISTS|" + one, "[0]", ""}, {"FUNCTION|LIST", "['b' 'f']", ""}, {"FUNCTION|DELETE|b", "1", "unload|b"}, {"FUNCTION|DELETE|b", "0", ""}, {"FUNCTION|DELETE|", "-ERR name", ""}, {"FUNCTION|DELETE|a b", "-ERR name", ""}, {"FUNCTION|LIST", "['f']", ""}, {"FCALL|b|0", "-ERR function", ""},
		{"SCRIPT", "-ERR args", ""}, {"SCRIPT|load|x", "-ERR args", ""}, {"SCRIPT|FOO", "-ERR args", ""}, {"SCRIPT|LOAD", "-ERR args", ""}, {"SCRIPT|LOAD|a|b", "-ERR args", ""}, {"SCRIPT|EXISTS", "-ERR args", ""}, {"SCRIPT|FLUSH|x", "-ERR args", ""}, {"SCRIPT|LIST", "-ERR args", ""}, {"FUNCTION", "-ERR args", ""}, {"FUNCTION|FLUSH", "-ERR args", ""}, {"FUNCTION|LOAD|f", "-ERR args", ""}, {"FUNCTION|LOAD|f|x|y", "-ERR args", ""}, {"FUNCTION|DELETE", "-ERR args", ""}, {"FUNCTION|DELETE|f|g", "-ERR args", ""}, {"FUNCTION|LIST|x", "-ERR args", ""}, {"FUNCTION|LOAD|a-b", "-ERR args", ""},
	}...)
	if s, ok := r.Cache().Named("f"); !ok || s != "return call('INCR', 'n')" {
		t.Error(s, ok)
	}
}

func TestCommands(t *testing.T) {
	r := made()
	play(t, r, 0, [][3]string{
		{"set|a|x|PX|10", "+OK", "effect|2|a||x|0|effect|3|a|||10"}, {"MSET|b|1|c|2", "+OK", "effect|2|b||1|0|effect|2|c||2|0"}, {"HSET|h|f|v", "1", "effect|5|h|f|v|0"}, {"ZADD|z|-5|m|3|n", "2", "effect|14|z|m||-5|effect|14|z|n||3"}, {"LPUSH|l|x|y", "2", "effect|7|l||x|0|effect|7|l||y|0"}, {"SADD|s|b|a", "2", "*"}, {"GET|a", "'x'", ""}, {"GET|none", "nil", ""}, {"GET", "-ERR args", ""}, {"FOO|x", "-ERR unknown", ""}, {"", "-ERR unknown", ""}, {"HGET|a|f", "-WRONGTYPE", ""}, {"evalx", "-ERR unknown", ""},
	}...)
	play(t, r, 10, [][3]string{{"GET|a", "nil", ""}, {"SET|a|y|NX", "+OK", "effect|1|a|||0|effect|2|a||y|0"}, {"PEXPIRE|l|5", "1", "effect|3|l|||15"}, {"EVAL|return call('PTTL', 'l')|0", "5", ""}}...)
	if reply, record := r.Do(10); told(reply) != "-ERR unknown" || record != nil {
		t.Error(told(reply))
	}
	want := [][]string{{"effect", "2", "a", "", "y", "0"}, {"effect", "2", "b", "", "1", "0"}, {"effect", "2", "c", "", "2", "0"}, {"effect", "5", "h", "f", "v", "0"}, {"effect", "8", "l", "", "y", "0", "effect", "8", "l", "", "x", "0", "effect", "3", "l", "", "", "15"}, {"effect", "12", "s", "a", "", "0", "effect", "12", "s", "b", "", "0"}, {"effect", "14", "z", "m", "", "-5", "effect", "14", "z", "n", "", "3"}}
	if got := r.Records(); !slices.EqualFunc(got, want, slices.Equal) {
		t.Error(got)
	}
	r.Do(0, "FUNCTION", "LOAD", "f", "x = 1") // refused
	r.Do(0, "FUNCTION", "LOAD", "g", "return 1")
	r.Do(0, "FUNCTION", "LOAD", "b", "return 2")
	r.Do(0, "SCRIPT", "LOAD", "return 3")
	r.Do(0, "SCRIPT", "LOAD", "return 4")
	puts := [][]string{{"put", "return 3"}, {"put", "return 4"}}
	if digest("return 4") < digest("return 3") {
		slices.Reverse(puts)
	}
	want = slices.Concat(want, puts, [][]string{{"load", "b", "return 2"}, {"load", "g", "return 1"}})
	if got := r.Records(); !slices.EqualFunc(got, want, slices.Equal) {
		t.Error(got)
	}
}

func TestReplay(t *testing.T) {
	r := made()
	for i, c := range []struct {
		texts string
		want  api.Errno
	}{
		{"effect|2|a||x|0|put|return 1|load|f|any text at all|effect|8|l||y|0", api.OK}, {"put|no script +", api.OK}, {"put|return 1", api.OK}, {"load|f|return 2", api.OK}, {"unload|f", api.OK}, {"load|f|return 2", api.OK}, {"effect|3|a|||-5", api.OK}, {"flush|flush", api.OK}, {"put|", api.OK}, {"load|g|", api.OK},
		{"", api.ErrRecord}, {"x", api.ErrRecord}, {"Effect|2|a||x|0", api.ErrRecord}, {"effect", api.ErrRecord}, {"effect|2|a||x", api.ErrRecord}, {"effect|2|a||x|", api.ErrRecord}, {"effect|02|a||x|0", api.ErrRecord}, {"effect|2|a||x|00", api.ErrRecord}, {"effect|x|a||x|0", api.ErrRecord}, {"effect|0|a||x|0", api.ErrRecord}, {"effect|16|a||x|0", api.ErrRecord}, {"effect|-1|a|||0", api.ErrRecord}, {"effect|4294967298|a||x|0", api.ErrRecord}, {"effect|2|a||x|1", api.ErrRecord}, {"effect|2|a|n|x|0", api.ErrRecord}, {"effect|1|none|||0", api.ErrRecord}, {"effect|8|a||x|0", api.ErrRecord}, {"effect|2|a||x|9223372036854775808", api.ErrRecord},
		{"put", api.ErrRecord}, {"load", api.ErrRecord}, {"load|f", api.ErrRecord}, {"load|a-b|x", api.ErrRecord}, {"unload", api.ErrRecord}, {"unload|none", api.ErrRecord}, {"unload|a-b", api.ErrRecord}, {"flush|x", api.ErrRecord}, {"PUT|x", api.ErrRecord}, {"put|a|b", api.ErrRecord},
		{"effect|2|b||x|0|x", api.ErrRecord}, {"effect|2|b||x|0|effect|1|none|||0", api.ErrRecord}, {"put|new|unload|none", api.ErrRecord}, {"flush|load|a-b|x", api.ErrRecord}, {"unload|f|unload|f", api.ErrRecord}, {"unload|f|effect|2|b||x|0|effect|2|b||x|7", api.ErrRecord}, {"effect|1|a|||0|effect|1|a|||0", api.ErrRecord},
	} {
		was := r.Copy()
		e := r.Replay(strings.Split(c.texts, "|")...)
		if e != c.want || e != api.OK && !r.Same(was) {
			t.Error(i, c.texts, e)
		}
	}
	if e := r.Replay(); e != api.OK {
		t.Error(e)
	}
	long := strings.Repeat("x", api.MaxText+1)
	for i, l := range [][]string{{"put", long}, {"load", "f", long}, {"effect", "2", "a", "", long, "0"}} {
		if e := r.Replay(l...); e != api.ErrRecord {
			t.Error(i, e)
		}
	}
	want := made()
	want.Replay("effect", "2", "a", "", "x", "0", "effect", "3", "a", "", "", "-5", "effect", "8", "l", "", "y", "0", "put", "", "load", "f", "return 2", "load", "g", "")
	if !r.Same(want) {
		t.Error(r.Records())
	}
}

func TestLong(t *testing.T) {
	r := made()
	long := strings.Repeat("x", api.MaxText+1)
	many := slices.Repeat([]string{"x"}, api.MaxItems+1)
	many[0], many[1], many[2] = "EVAL", "return #KEYS", "65533"
	for i, c := range []struct {
		args []string
		want string
	}{
		{[]string{"GET", long}, "-ERR long"}, {[]string{long}, "-ERR long"}, {[]string{"EVAL", long}, "-ERR long"}, {[]string{"SCRIPT", long}, "-ERR long"}, {many, "-ERR long"}, {many[:api.MaxItems], "65533"}, {make([]string, api.MaxItems+1), "-ERR long"}, {[]string{"EVAL", "return " + strings.Repeat(" ", api.MaxText-8) + "1", "0"}, "1"}, {[]string{"EVAL", "return 1", long}, "-ERR long"},
	} {
		if reply, _ := r.Do(0, c.args...); told(reply) != c.want {
			t.Error(i, told(reply))
		}
	}
}

func TestFull(t *testing.T) {
	r := made()
	for i := range api.MaxItems - 1 {
		if e := r.Replay("put", strconv.Itoa(i)); e != api.OK {
			t.Fatal(i, e)
		}
	}
	for i, c := range [][2]string{{"FUNCTION|LOAD|f|return 1", "+OK"}, {"FUNCTION|LOAD|g|return 1", "-ERR full"}, {"SCRIPT|LOAD|return 1", "-ERR full"}, {"SCRIPT|LOAD|return +", "-ERR compile"}, {"FUNCTION|LOAD|f|return 2", "+OK"}, {"FUNCTION|LOAD|a-b|return 2", "-ERR name"}, {"EVAL|return 1|0", "1"}, {"FUNCTION|DELETE|f", "1"}, {"SCRIPT|LOAD|return 1", "'" + digest("return 1") + "'"}, {"FUNCTION|LOAD|f|return 2", "-ERR full"}, {"SCRIPT|LOAD|return 1", "'" + digest("return 1") + "'"}} {
		if reply, _ := r.Do(0, strings.Split(c[0], "|")...); told(reply) != c[1] {
			t.Error(i, told(reply))
		}
	}
	if e := r.Replay("put", "new"); e != api.ErrRecord {
		t.Error(e)
	}
	if e := r.Replay("load", "new", ""); e != api.ErrRecord {
		t.Error(e)
	}
	if r.Cache().Len() != api.MaxItems {
		t.Error(r.Cache().Len())
	}
}

func TestBounds(t *testing.T) {
	r := runner.New(api.Bounds{Fuel: 300, Cells: 10, Depth: 3})
	for i, c := range [][2]string{{"while true do end", "-ERR fuel"}, {"local t = {} for i = 1, 20 do t[i] = i end", "-ERR memory"}, {"local function f() return f() end f()", "-ERR depth"}, {"local function f() return 1 end return f()", "1"}, {"while true do call('INCR', 'n') end", "-ERR fuel"}} {
		if reply, _ := done(t, r.Copy(), 0, "EVAL", c[0], "0"); reply != c[1] {
			t.Error(i, reply)
		}
	}
}

func TestAlike(t *testing.T) {
	for _, s := range []string{"return KEYS[1] .. ARGV[1]", "call('INCR', KEYS[1]) call('RPUSH', 'l', ARGV[1]) return call('LRANGE', 'l', 0, -1)", "call('SET', 'a', 1) error('x')", "local n = 0 for i = 1, 10 do n = n + i end return {n, KEYS, false}", "return 1 / 0"} {
		r := made()
		r.Do(0, "SET", "k", "5")
		by := r.Copy()
		named := r.Copy()
		k := r.Keys()
		ran, e := meaning.Text(k, s, api.Running{Keys: []string{"k"}, Args: []string{"x"}, Now: 3, Fuel: 100000, Cells: 100000, Depth: 50})
		reply, record := r.Do(3, "EVAL", s, "1", "k", "x")
		if e != api.OK || !basics.Same(reply, ran.Reply) || !r.Keys().Same(k) || len(record) != 6*len(ran.Effects) {
			t.Error(s, told(reply))
		}
		by.Do(0, "SCRIPT", "LOAD", s)
		if other, again := by.Do(3, "EVALSHA", digest(s), "1", "k", "x"); !basics.Same(reply, other) || !slices.Equal(record, again) {
			t.Error("EVALSHA", s)
		}
		named.Do(0, "FUNCTION", "LOAD", "f", s)
		if other, again := named.Do(3, "FCALL", "f", "1", "k", "x"); !basics.Same(reply, other) || !slices.Equal(record, again) {
			t.Error("FCALL", s)
		}
	}
}

func TestCopies(t *testing.T) {
	r := made()
	r.Do(0, "SET", "a", "1")
	r.Do(0, "FUNCTION", "LOAD", "f", "return 1")
	c := r.Copy()
	r.Keys().Apply(api.Effect{Op: api.EffDrop, Key: "a"})
	r.Cache().Unload("f")
	if !r.Same(c) || !c.Same(r) {
		t.Error("Keys, Cache are no copies")
	}
	c.Do(0, "INCR", "a")
	if r.Same(c) {
		t.Error("Same")
	}
	if reply, _ := r.Do(0, "GET", "a"); told(reply) != "'1'" {
		t.Error("Copy shares the keyspace")
	}
	r.Do(0, "INCR", "a")
	r.Do(0, "SCRIPT", "LOAD", "return 1")
	if r.Same(c) || !r.Keys().Same(c.Keys()) || cache.Same(r.Cache(), c.Cache()) {
		t.Error("Same")
	}
	if other := runner.New(api.Bounds{}); !other.Same(made()) || other.Same(r) {
		t.Error("Same of other bounds")
	}
}

func TestNil(t *testing.T) {
	for _, r := range []*runner.Runner{nil, {}} {
		for _, args := range [][]string{nil, {"GET", "a"}, {"EVAL", "return 1", "0"}, {strings.Repeat("x", api.MaxText+1)}} {
			if reply, record := r.Do(0, args...); told(reply) != "-ERR unknown" || record != nil {
				t.Error(told(reply))
			}
		}
		var none *keys.Keys
		if r.Replay("x") != api.ErrNil || r.Replay() != api.ErrNil || r.Records() != nil || r.Keys() != none || r.Cache() != nil || r.Copy() != nil || !r.Same(nil) || r.Same(made()) || made().Same(r) {
			t.Error("zero answers")
		}
	}
}
