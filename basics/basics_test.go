package basics_test

import (
	"math"
	"slices"
	"strconv"
	"strings"
	"testing"

	"tabor/api"
	"tabor/basics"
	"tabor/keys"
)

// told writes a reply in short.
func told(r api.Reply) string {
	switch r.Kind {
	case api.ReplyNone:
		return "nil"
	case api.ReplyStatus:
		return "+" + r.Text
	case api.ReplyError:
		return "-" + r.Text
	case api.ReplyInt:
		return strconv.FormatInt(r.Int, 10)
	case api.ReplyText:
		return "'" + r.Text + "'"
	}
	var l []string
	for _, x := range r.List {
		l = append(l, told(x))
	}
	return "[" + strings.Join(l, " ") + "]"
}

// changes writes effects in short.
func changes(l []api.Effect) string {
	var out []string
	for _, e := range l {
		out = append(out, strconv.Itoa(int(e.Op))+" "+e.Key+" "+e.Name+" "+e.Text+" "+strconv.FormatInt(e.Int, 10))
	}
	return strings.Join(out, "; ")
}

type row struct {
	now  int64
	line string // the command's texts, with blanks between
	want string // its reply in short
	effs string // its effects in short, * for any
}

func ask(t *testing.T, k *keys.Keys, now int64, args ...string) (api.Reply, []api.Effect) {
	t.Helper()
	was := k.Copy()
	r, l, ok := basics.Do(k, now, args...)
	if !ok || !k.Same(was) {
		t.Fatalf("%q: %v, or changed", args, ok)
	}
	if r.Kind == api.ReplyError && len(l) > 0 {
		t.Errorf("%q: refused, with effects", args)
	}
	if n, e := k.Apply(l...); n != len(l) || e != api.OK {
		t.Fatalf("%q: effects %d %v", args, n, e)
	}
	return r, l
}

func play(t *testing.T, k *keys.Keys, rows []row) {
	t.Helper()
	for i, c := range rows {
		r, l := ask(t, k, c.now, strings.Split(c.line, " ")...)
		if told(r) != c.want || c.effs != "*" && changes(l) != c.effs {
			t.Errorf("%d %s: %s (%s)", i, c.line, told(r), changes(l))
		}
	}
}

func filled(t *testing.T) *keys.Keys {
	t.Helper()
	k := keys.New()
	l := []api.Effect{{Op: api.EffHash, Key: "h", Name: "f"}, {Op: api.EffTail, Key: "l", Text: "a"}, {Op: api.EffAdd, Key: "s", Name: "m"}, {Op: api.EffRank, Key: "z", Name: "m"}}
	if n, e := k.Apply(l...); n != 4 || e != api.OK {
		t.Fatal(e)
	}
	return k
}

func TestTexts(t *testing.T) {
	play(t, filled(t), []row{
		{0, "SET a 5", "+OK", "2 a  5 0"}, {0, "INCR a", "6", "2 a  6 0"}, {0, "GET a", "'6'", ""}, {0, "TYPE a", "+string", ""},
		{0, "get none", "nil", ""}, {0, "Set a x", "+OK", "2 a  x 0"}, {0, "STRLEN a", "1", ""}, {0, "STRLEN none", "0", ""}, {0, "APPEND a yz", "3", "2 a  xyz 0"}, {0, "APPEND b ", "0", "2 b   0"}, {0, "GET b", "''", ""},
		{0, "SET a q NX", "nil", ""}, {0, "GET a", "'xyz'", ""}, {0, "SET c q NX", "+OK", "2 c  q 0"}, {0, "SET l q NX", "nil", ""}, {0, "SET l q", "+OK", "2 l  q 0"},
		{0, "MGET a none h c", "['xyz' nil nil 'q']", ""}, {0, "MSET a 1 b 2 a 3", "+OK", "2 a  1 0; 2 b  2 0; 2 a  3 0"}, {0, "MGET a b a", "['3' '2' '3']", ""},
		{0, "INCRBY a 4", "7", "2 a  7 0"}, {0, "INCRBY a -10", "-3", "2 a  -3 0"}, {0, "DECR a", "-4", "*"}, {0, "DECR new", "-1", "2 new  -1 0"}, {0, "INCRBY newer 0", "0", "2 newer  0 0"},
		{0, "DEL a none b a", "2", "1 a   0; 1 b   0"}, {0, "DEL a", "0", ""}, {0, "EXISTS h a h s", "3", ""}, {0, "EXISTS a", "0", ""},
		{0, "TYPE a", "+none", ""}, {0, "TYPE h", "+hash", ""}, {0, "TYPE s", "+set", ""}, {0, "TYPE z", "+zset", ""}, {0, "DBSIZE", "7", ""}, {0, "KEYS", "['c' 'h' 'l' 'new' 'newer' 's' 'z']", ""},
		{0, "DEL l c new newer", "4", "*"}, {0, "FLUSHALL", "+OK", "1 h   0; 1 s   0; 1 z   0"}, {0, "FLUSHALL", "+OK", ""}, {0, "KEYS", "[]", ""}, {0, "DBSIZE", "0", ""},
	})
	k := filled(t)
	play(t, k, []row{{0, "TYPE l", "+list", ""}})
}

func TestTimes(t *testing.T) {
	play(t, filled(t), []row{
		{0, "SET a x PX 10", "+OK", "2 a  x 0; 3 a   10"}, {9, "GET a", "'x'", ""}, {10, "GET a", "nil", ""}, {10, "EXISTS a", "0", ""}, {10, "TYPE a", "+none", ""}, {10, "DEL a", "0", ""}, {10, "PTTL a", "-2", ""}, {10, "DBSIZE", "4", ""},
		{10, "SET a y NX", "+OK", "1 a   0; 2 a  y 0"}, {10, "PTTL a", "-1", ""}, {10, "PERSIST a", "0", ""}, {10, "PEXPIRE a 5", "1", "3 a   15"}, {11, "PTTL a", "4", ""}, {11, "SET a 7", "+OK", "2 a  7 0"}, {11, "PTTL a", "-1", ""},
		{11, "PEXPIRE a 5", "1", "3 a   16"}, {11, "INCR a", "8", "2 a  8 0; 3 a   16"}, {11, "APPEND a 9", "2", "2 a  89 0; 3 a   16"}, {12, "PTTL a", "4", ""}, {12, "PERSIST a", "1", "4 a   0"}, {99, "GET a", "'89'", ""},
		{99, "PEXPIRE none 5", "0", ""}, {99, "PERSIST none", "0", ""}, {99, "PTTL none", "-2", ""}, {99, "PEXPIRE l 1", "1", "3 l   100"}, {100, "INCR l", "1", "1 l   0; 2 l  1 0"}, {100, "PEXPIRE l 0", "1", "1 l   0"}, {100, "PEXPIRE a -5", "1", "1 a   0"},
		{100, "SET p x PX 1", "+OK", "*"}, {101, "APPEND p z", "1", "1 p   0; 2 p  z 0"}, {101, "SET p x PX 1", "+OK", "2 p  x 0; 3 p   102"}, {102, "SET p w PX 7", "+OK", "1 p   0; 2 p  w 0; 3 p   109"},
		{109, "MSET p 1 q 2 p 3", "+OK", "1 p   0; 2 p  1 0; 2 q  2 0; 2 p  3 0"}, {109, "PEXPIRE q 1", "1", "*"}, {110, "KEYS", "['h' 'p' 's' 'z']", ""}, {110, "MGET q p", "[nil '3']", ""}, {110, "FLUSHALL", "+OK", "1 h   0; 1 p   0; 1 q   0; 1 s   0; 1 z   0"},
		{-50, "SET a x PX 10", "+OK", "2 a  x 0; 3 a   -40"}, {-41, "PTTL a", "1", ""}, {-40, "PTTL a", "-2", ""},
		{math.MaxInt64 - 1, "SET b x PX 1", "+OK", "*"}, {0, "PTTL b", "9223372036854775807", ""}, {-1, "PTTL b", "-ERR over", ""}, {math.MinInt64, "PTTL b", "-ERR over", ""}, {math.MaxInt64, "SET c x PX 1", "-ERR over", ""},
		{math.MaxInt64, "PEXPIRE b 1", "0", ""}, {5, "PEXPIRE b 9223372036854775807", "-ERR over", ""}, {5, "PEXPIRE none 9223372036854775807", "0", ""}, {5, "PEXPIRE b -9223372036854775808", "1", "1 b   0"},
	})
}

func TestErrors(t *testing.T) {
	k := filled(t)
	play(t, k, []row{
		{0, "SET", "-ERR args", ""}, {0, "SET a", "-ERR args", ""}, {0, "SET a b c", "-ERR args", ""}, {0, "SET a b PX", "-ERR args", ""}, {0, "SET a b NX 1", "-ERR args", ""}, {0, "SET a b EX 1", "-ERR args", ""}, {0, "SET a b PX 1 NX", "-ERR args", ""},
		{0, "SET a b PX x", "-ERR number", ""}, {0, "SET a b PX 0", "-ERR range", ""}, {0, "SET a b PX -1", "-ERR range", ""}, {1, "SET a b PX 9223372036854775807", "-ERR over", ""}, {0, "SET a b PX 9223372036854775808", "-ERR number", ""}, {0, "SET a b PX 01", "-ERR number", ""},
		{0, "GET", "-ERR args", ""}, {0, "GET a b", "-ERR args", ""}, {0, "DEL", "-ERR args", ""}, {0, "EXISTS", "-ERR args", ""}, {0, "TYPE", "-ERR args", ""}, {0, "TYPE a b", "-ERR args", ""}, {0, "INCR", "-ERR args", ""}, {0, "INCR a 1", "-ERR args", ""},
		{0, "DECR a 1", "-ERR args", ""}, {0, "INCRBY a", "-ERR args", ""}, {0, "INCRBY a 1 2", "-ERR args", ""}, {0, "APPEND a", "-ERR args", ""}, {0, "STRLEN", "-ERR args", ""}, {0, "MGET", "-ERR args", ""}, {0, "MSET", "-ERR args", ""}, {0, "MSET a", "-ERR args", ""}, {0, "MSET a 1 b", "-ERR args", ""},
		{0, "PEXPIRE a", "-ERR args", ""}, {0, "PERSIST", "-ERR args", ""}, {0, "PTTL", "-ERR args", ""}, {0, "KEYS a", "-ERR args", ""}, {0, "DBSIZE a", "-ERR args", ""}, {0, "FLUSHALL a", "-ERR args", ""},
		{0, "GET l", "-WRONGTYPE", ""}, {0, "STRLEN h", "-WRONGTYPE", ""}, {0, "INCR s", "-WRONGTYPE", ""}, {0, "APPEND z x", "-WRONGTYPE", ""}, {0, "INCRBY l x", "-ERR number", ""}, {0, "INCRBY l 1", "-WRONGTYPE", ""}, {0, "PEXPIRE none x", "-ERR number", ""},
		{0, "SET n 9223372036854775807", "+OK", "*"}, {0, "INCR n", "-ERR over", ""}, {0, "GET n", "'9223372036854775807'", ""}, {0, "SET n -9223372036854775808", "+OK", "*"}, {0, "DECR n", "-ERR over", ""}, {0, "INCRBY n -1", "-ERR over", ""}, {0, "INCRBY n 9223372036854775807", "-1", "*"},
		{0, "SET n 01", "+OK", "*"}, {0, "INCR n", "-ERR number", ""}, {0, "SET n x", "+OK", "*"}, {0, "INCR n", "-ERR number", ""},
	})
}

func TestLong(t *testing.T) {
	most := strings.Repeat("x", api.MaxText)
	k := keys.New()
	for i, c := range []struct {
		want string
		args []string
	}{
		{"+OK", []string{"SET", "a", most}}, {"1048576", []string{"APPEND", "b", most}}, {"-ERR long", []string{"APPEND", "a", "y"}}, {"-ERR long", []string{"SET", "a", most + "y"}}, {"-ERR long", []string{"SET", most + "y", "a"}},
		{"+OK", []string{"SET", most, "a"}}, {"-ERR long", []string{"MSET", "c", "1", "d", most + "y"}}, {"-ERR args", []string{"SET", "a", most + "y", "?"}}, {"nil", []string{"GET", most + "y"}}, {"0", []string{"DEL", most + "y"}}, {"nil", []string{"GET", "c"}},
	} {
		if r, _ := ask(t, k, 0, c.args...); told(r) != c.want {
			t.Error(i, told(r)[:20])
		}
	}
}

func TestKnown(t *testing.T) {
	k := keys.New()
	for i, args := range [][]string{nil, {}, {""}, {"FOO", "a"}, {"HGET", "h", "f"}, {"S\xc3\x89T", "a", "b"}, {"\u017fET", "a", "b"}, {"GET "}, {"EVAL"}} {
		if r, l, ok := basics.Do(k, 0, args...); ok || l != nil || !basics.Same(r, api.Reply{}) {
			t.Error(i, r, l)
		}
	}
	for _, none := range []*keys.Keys{nil, {}} {
		if r, l, ok := basics.Do(none, 0, "GET", "a"); ok || l != nil || !basics.Same(r, api.Reply{}) {
			t.Error("of none", r)
		}
		if basics.Drops(none, 0, "a") != nil {
			t.Error("Drops of none")
		}
	}
	want := strings.Fields("APPEND DBSIZE DECR DEL EXISTS FLUSHALL GET INCR INCRBY KEYS MGET MSET PERSIST PEXPIRE PTTL SET STRLEN TYPE")
	if got := basics.Names(); !slices.Equal(got, want) {
		t.Error(got)
	}
	for _, name := range basics.Names() {
		if _, _, ok := basics.Do(k, 0, strings.ToLower(name)); !ok {
			t.Error(name)
		}
	}
}

func TestNumber(t *testing.T) {
	for s, want := range map[string]int64{"0": 0, "7": 7, "-7": -7, "10": 10, "9223372036854775807": math.MaxInt64, "-9223372036854775808": math.MinInt64} {
		if n, ok := basics.Number(s); n != want || !ok {
			t.Error(s, n, ok)
		}
	}
	for _, s := range []string{"", "-", "-0", "+1", "01", "-01", "00", " 1", "1 ", "1_0", "0x1", "9223372036854775808", "-9223372036854775809", "99999999999999999999", "1.0", "\xff", "--1", "\u0661"} {
		if n, ok := basics.Number(s); n != 0 || ok {
			t.Errorf("%q %d", s, n)
		}
	}
}

func TestRest(t *testing.T) {
	if r := basics.Fail("ERR args"); !basics.Same(r, api.Reply{Kind: api.ReplyError, Text: "ERR args"}) {
		t.Error(r)
	}
	one := []api.Reply{{}}
	all := []api.Reply{{}, {Kind: 1}, {Int: 1}, {Text: "x"}, {List: one}, {Kind: 5}, {Kind: 5, List: one}, {Kind: 5, List: []api.Reply{{Int: 1}}}, {Kind: 5, List: append(one, api.Reply{})}}
	for i, a := range all {
		for j, b := range all {
			if basics.Same(a, b) != (i == j) {
				t.Error(i, j)
			}
		}
	}
	if !basics.Same(api.Reply{Kind: 5}, api.Reply{Kind: 5, List: []api.Reply{}}) {
		t.Error("nil and empty")
	}
	k := keys.New()
	k.Apply(api.Effect{Op: api.EffText, Key: "a"}, api.Effect{Op: api.EffUntil, Key: "a", Int: 5}, api.Effect{Op: api.EffText, Key: "b"})
	if l := basics.Drops(k, 5, "a"); changes(l) != "1 a   0" {
		t.Error(l)
	}
	if len(basics.Drops(k, 4, "a"))+len(basics.Drops(k, 5, "b"))+len(basics.Drops(k, 5, "c")) != 0 {
		t.Error("Drops of what is not gone")
	}
}
