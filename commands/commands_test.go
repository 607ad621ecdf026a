package commands_test

import (
	"slices"
	"strconv"
	"strings"
	"testing"

	"tabor/api"
	"tabor/basics"
	"tabor/colls"
	"tabor/commands"
	"tabor/keys"
)

func text(s string) api.Reply  { return api.Reply{Kind: api.ReplyText, Text: s} }
func number(n int64) api.Reply { return api.Reply{Kind: api.ReplyInt, Int: n} }
func fine() api.Reply          { return api.Reply{Kind: api.ReplyStatus, Text: "OK"} }

func TestExample(t *testing.T) {
	k := keys.New()
	got := commands.Run(k, 0, []string{"set", "a", "1"}, []string{"Incr", "a"}, []string{"HGET", "a", "f"}, []string{"FOO"}, nil)
	want := []api.Reply{fine(), number(2), basics.Fail("WRONGTYPE"), basics.Fail("ERR unknown"), basics.Fail("ERR unknown")}
	if !slices.EqualFunc(got, want, basics.Same) {
		t.Error(got)
	}
	if commands.Run(k, 0) != nil {
		t.Error("Run of nothing")
	}
}

// asked asks a command, and does it, and holds both against each other and against its effects.
func asked(t *testing.T, k *keys.Keys, now int64, args ...string) api.Reply {
	t.Helper()
	was := k.Copy()
	r, l := commands.Ask(k, now, args...)
	if !k.Same(was) {
		t.Fatalf("%.60q: asking changes", args)
	}
	again, done := commands.Do(k, now, args...)
	if !basics.Same(r, again) || !slices.Equal(l, done) {
		t.Fatalf("%.60q: asked %v, done %v", args, r.Text, again.Text)
	}
	if n, e := was.Apply(done...); n != len(done) || e != api.OK || !was.Same(k) {
		t.Fatalf("%.60q: effects %v", args, e)
	}
	if again.Kind == api.ReplyError && len(done) > 0 {
		t.Errorf("%.60q: an error with effects", args)
	}
	return again
}

func TestDo(t *testing.T) {
	k := keys.New()
	for i, c := range []struct {
		now  int64
		line string
		want api.Reply
	}{
		{0, "SET a x PX 10", fine()}, {0, "rpush l 1 2 3", number(3)}, {0, "LPOP l", text("1")}, {0, "sAdd s b a", number(2)}, {0, "ZADD z 1 m", number(1)}, {0, "HSET h f v", number(1)}, {0, "GET a", text("x")},
		{10, "GET a", api.Reply{}}, {10, "APPEND a y", number(1)}, {10, "DBSIZE", number(5)}, {10, "DEL l s z h", number(4)}, {10, "MSET p 1 q 2", fine()}, {10, "GET l x", basics.Fail("ERR args")}, {10, "INCR a", basics.Fail("ERR number")}, {10, "EVAL x 0", basics.Fail("ERR unknown")},
		{10, "FLUSHALL", fine()}, {10, "", basics.Fail("ERR unknown")}, {10, "GETX", basics.Fail("ERR unknown")},
	} {
		if r := asked(t, k, c.now, strings.Split(c.line, " ")...); !basics.Same(r, c.want) {
			t.Error(i, c.line, r)
		}
	}
	if k.Size(0) != 0 {
		t.Error("FLUSHALL")
	}
}

func TestLong(t *testing.T) {
	k := keys.New()
	long := strings.Repeat("x", api.MaxText+1)
	many := make([]string, api.MaxItems+1)
	many[0] = "DEL"
	for i, c := range []struct {
		args []string
		want api.Reply
	}{
		{[]string{"GET", long}, basics.Fail("ERR long")}, {[]string{long}, basics.Fail("ERR long")}, {[]string{"FOO", long}, basics.Fail("ERR long")}, {many, basics.Fail("ERR long")}, {many[:api.MaxItems], number(0)}, {many[1:], basics.Fail("ERR unknown")},
		{make([]string, api.MaxItems+1), basics.Fail("ERR long")}, {[]string{"GET", long[1:]}, api.Reply{}}, {[]string{long[1:]}, basics.Fail("ERR unknown")},
	} {
		if r := asked(t, k, 0, c.args...); !basics.Same(r, c.want) {
			t.Error(i, r)
		}
	}
}

func TestFull(t *testing.T) {
	k := keys.New()
	for i := range api.MaxKeys - 2 {
		if r, _ := commands.Do(k, 0, "SET", strconv.Itoa(i), "x"); !basics.Same(r, fine()) {
			t.Fatal(i, r)
		}
	}
	for _, e := range []api.Effect{{Op: api.EffTail, Key: "gone", Text: "a"}, {Op: api.EffTail, Key: "gone", Text: "b"}, {Op: api.EffUntil, Key: "gone", Int: -5}} {
		k.Apply(e)
	}
	for i, c := range []struct {
		line string
		want api.Reply
	}{
		{"MSET new 1 0 changed newer 2", basics.Fail("ERR full")}, {"MSET gone 1 new 2 newer 3", basics.Fail("ERR full")}, {"GET 0", text("x")}, {"LRANGE gone 0 -1", api.Reply{Kind: api.ReplyList}}, {"MSET gone 1 new 2", fine()}, {"SET more 1", basics.Fail("ERR full")},
		{"RPUSH more 1 2", basics.Fail("ERR full")}, {"ZADD more 1 2", basics.Fail("ERR full")}, {"SADD more 1", basics.Fail("ERR full")}, {"HSET more 1 2", basics.Fail("ERR full")}, {"INCR more", basics.Fail("ERR full")}, {"SET new 5", fine()}, {"MSET new 1 0 y", fine()}, {"MSET 0 z more 1", basics.Fail("ERR full")}, {"GET 0", text("y")},
		{"DEL 7", number(1)}, {"RPUSH more 1 2", number(2)}, {"DBSIZE", number(api.MaxKeys)},
	} {
		if r := asked(t, k, 0, strings.Split(c.line, " ")...); !basics.Same(r, c.want) {
			t.Error(i, c.line, r)
		}
	}
	var args []string
	for i := range 4 {
		args = append(args, "k"+strconv.Itoa(i), "v")
	}
	k.Apply(api.Effect{Op: api.EffDrop, Key: "0"}, api.Effect{Op: api.EffHash, Key: "1h", Name: "f", Text: "v"}, api.Effect{Op: api.EffDrop, Key: "1"}, api.Effect{Op: api.EffAdd, Key: "1s", Name: "m"}, api.Effect{Op: api.EffDrop, Key: "2"}, api.Effect{Op: api.EffRank, Key: "1z", Name: "m", Int: 4}, api.Effect{Op: api.EffUntil, Key: "1z", Int: 90}, api.Effect{Op: api.EffDrop, Key: "3"})
	if r := asked(t, k, 0, append([]string{"MSET", "1h", "a", "1s", "b", "1z", "c"}, args...)...); !basics.Same(r, basics.Fail("ERR full")) {
		t.Error(r)
	}
}

func TestNames(t *testing.T) {
	all := append(basics.Names(), colls.Names()...)
	slices.Sort(all)
	if !slices.Equal(commands.Names(), all) || len(all) != 46 {
		t.Error(commands.Names(), len(all))
	}
	for _, name := range all {
		if !commands.Known(name) || !commands.Known(strings.ToLower(name)) || !commands.Known(name[:1]+strings.ToLower(name[1:])) || commands.Known(name+" ") || commands.Known(" "+name) {
			t.Error(name)
		}
	}
	for _, name := range []string{"", "FOO", "EVAL", "\u017fET", "GE"} {
		if commands.Known(name) {
			t.Error(name)
		}
	}
}

func TestNil(t *testing.T) {
	for _, k := range []*keys.Keys{nil, {}} {
		for _, args := range [][]string{nil, {"GET", "a"}, {"SET", "a", "b"}, {"FOO"}, {"HSET", "h", "f", "v"}} {
			r, l := commands.Do(k, 0, args...)
			s, m := commands.Ask(k, 0, args...)
			if !basics.Same(r, basics.Fail("ERR unknown")) || !basics.Same(s, r) || l != nil || m != nil {
				t.Error(args, r, s)
			}
		}
		if l := commands.Run(k, 0, []string{"GET", "a"}); len(l) != 1 || !basics.Same(l[0], basics.Fail("ERR unknown")) {
			t.Error(l)
		}
	}
}
