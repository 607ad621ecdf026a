package colls_test

import (
	"math"
	"slices"
	"strconv"
	"strings"
	"testing"

	"tabor/api"
	"tabor/basics"
	"tabor/colls"
	"tabor/keys"
)

// told writes a reply in short.
func told(r api.Reply) string {
	switch r.Kind {
	case api.ReplyNone:
		return "nil"
	case api.ReplyStatus:
		return "+" + r.Text
	case api.ReplyError:
		return "-" + r.Text
	case api.ReplyInt:
		return strconv.FormatInt(r.Int, 10)
	case api.ReplyText:
		return "'" + r.Text + "'"
	}
	var l []string
	for _, x := range r.List {
		l = append(l, told(x))
	}
	return "[" + strings.Join(l, " ") + "]"
}

// changes writes effects in short.
func changes(l []api.Effect) string {
	var out []string
	for _, e := range l {
		out = append(out, strconv.Itoa(int(e.Op))+" "+e.Key+" "+e.Name+" "+e.Text+" "+strconv.FormatInt(e.Int, 10))
	}
	return strings.Join(out, "; ")
}

func ask(t *testing.T, k *keys.Keys, now int64, args ...string) (api.Reply, []api.Effect) {
	t.Helper()
	was := k.Copy()
	r, l, ok := colls.Do(k, now, args...)
	if !ok || !k.Same(was) {
		t.Fatalf("%.60q: %v, or changed", args, ok)
	}
	if r.Kind == api.ReplyError && len(l) > 0 {
		t.Errorf("%.60q: refused, with effects", args)
	}
	if n, e := k.Apply(l...); n != len(l) || e != api.OK {
		t.Fatalf("%.60q: effects %d %v", args, n, e)
	}
	return r, l
}

// play asks lines, each with its reply and effects in short; effects * are any.
func play(t *testing.T, k *keys.Keys, now int64, rows ...[3]string) {
	t.Helper()
	for i, c := range rows {
		r, l := ask(t, k, now, strings.Split(c[0], " ")...)
		if told(r) != c[1] || c[2] != "*" && changes(l) != c[2] {
			t.Errorf("%d %s: %s (%s)", i, c[0], told(r), changes(l))
		}
	}
}

func TestHashes(t *testing.T) {
	k := keys.New()
	play(t, k, 0, [][3]string{
		{"HSET h f 1 f 2", "1", "5 h f 1 0; 5 h f 2 0"}, {"HGET h f", "'2'", ""}, {"HINCRBY h f 5", "7", "5 h f 7 0"}, {"hset h b x a y f z", "2", "5 h b x 0; 5 h a y 0; 5 h f z 0"},
		{"HGETALL h", "['a' 'y' 'b' 'x' 'f' 'z']", ""}, {"HLEN h", "3", ""}, {"HGET h none", "nil", ""}, {"HGET none f", "nil", ""}, {"HLEN none", "0", ""}, {"HGETALL none", "[]", ""},
		{"HDEL h b none b a", "2", "6 h b  0; 6 h a  0"}, {"HDEL none a", "0", ""}, {"HDEL h f", "1", "6 h f  0"}, {"HLEN h", "0", ""}, {"HINCRBY h n -3", "-3", "5 h n -3 0"}, {"HINCRBY h m 0", "0", "5 h m 0 0"},
		{"HSET h n 9223372036854775807", "0", "*"}, {"HINCRBY h n 1", "-ERR over", ""}, {"HINCRBY h n -1", "9223372036854775806", "*"}, {"HSET h n 01", "0", "*"}, {"HINCRBY h n 1", "-ERR number", ""}, {"HINCRBY h n x", "-ERR number", ""},
		{"HSET h", "-ERR args", ""}, {"HSET h f", "-ERR args", ""}, {"HSET h f 1 g", "-ERR args", ""}, {"HGET h", "-ERR args", ""}, {"HGET h f g", "-ERR args", ""}, {"HDEL h", "-ERR args", ""}, {"HLEN", "-ERR args", ""}, {"HLEN h f", "-ERR args", ""}, {"HGETALL h f", "-ERR args", ""}, {"HINCRBY h f", "-ERR args", ""}, {"HINCRBY h f 1 2", "-ERR args", ""},
	}...)
}

func TestLists(t *testing.T) {
	k := keys.New()
	play(t, k, 0, [][3]string{
		{"RPUSH l a b c", "3", "8 l  a 0; 8 l  b 0; 8 l  c 0"}, {"LRANGE l 0 -2", "['a' 'b']", ""}, {"LINDEX l -1", "'c'", ""}, {"LSET l 3 x", "-ERR range", ""}, {"LPUSH l x y", "5", "7 l  x 0; 7 l  y 0"}, {"LRANGE l 0 -1", "['y' 'x' 'a' 'b' 'c']", ""},
		{"LRANGE l -2 9", "['b' 'c']", ""}, {"LRANGE l 3 1", "[]", ""}, {"LRANGE none 0 -1", "[]", ""}, {"LRANGE l -9223372036854775808 9223372036854775807", "['y' 'x' 'a' 'b' 'c']", ""}, {"LLEN l", "5", ""}, {"LLEN none", "0", ""},
		{"LINDEX l 0", "'y'", ""}, {"LINDEX l 5", "nil", ""}, {"LINDEX l -6", "nil", ""}, {"LINDEX none 0", "nil", ""}, {"LSET l -1 z", "+OK", "11 l  z 4"}, {"LSET l 0 w", "+OK", "11 l  w 0"}, {"LSET l -6 w", "-ERR range", ""}, {"LSET none 0 w", "-ERR range", ""},
		{"LPOP l", "'w'", "9 l   0"}, {"RPOP l", "'z'", "10 l   0"}, {"RPOP l", "'b'", "*"}, {"RPOP l", "'a'", "*"}, {"LPOP l", "'x'", "*"}, {"LPOP l", "nil", ""}, {"RPOP l", "nil", ""}, {"LLEN l", "0", ""}, {"LPUSH l ", "1", "7 l   0"},
		{"LPUSH l", "-ERR args", ""}, {"RPUSH l", "-ERR args", ""}, {"RPUSH", "-ERR args", ""}, {"LPOP l 1", "-ERR args", ""}, {"RPOP", "-ERR args", ""}, {"LLEN l l", "-ERR args", ""}, {"LINDEX l", "-ERR args", ""}, {"LINDEX l x", "-ERR number", ""}, {"LRANGE l 0", "-ERR args", ""}, {"LRANGE l 0 1 2", "-ERR args", ""},
		{"LRANGE l x 1", "-ERR number", ""}, {"LRANGE l 0 -0", "-ERR number", ""}, {"LSET l 0", "-ERR args", ""}, {"LSET l +0 x", "-ERR number", ""}, {"LSET none x y", "-ERR number", ""},
	}...)
}

func TestSets(t *testing.T) {
	k := keys.New()
	play(t, k, 0, [][3]string{
		{"SADD s b a b", "2", "12 s b  0; 12 s a  0"}, {"SMEMBERS s", "['a' 'b']", ""}, {"SADD s a", "0", "*"}, {"SADD s a c", "1", "*"}, {"SCARD s", "3", ""}, {"SCARD none", "0", ""}, {"SISMEMBER s a", "1", ""}, {"SISMEMBER s x", "0", ""}, {"SISMEMBER none x", "0", ""},
		{"SADD u c d a", "3", "*"}, {"SADD v a c e", "3", "*"}, {"SINTER s", "['a' 'b' 'c']", ""}, {"SINTER s u", "['a' 'c']", ""}, {"SINTER v u s v", "['a' 'c']", ""}, {"SINTER s none u", "[]", ""}, {"SINTER none", "[]", ""}, {"SMEMBERS s", "['a' 'b' 'c']", ""},
		{"SREM s a none a c", "2", "13 s a  0; 13 s c  0"}, {"SREM s b", "1", "*"}, {"SCARD s", "0", ""}, {"SREM s b", "0", ""}, {"SMEMBERS s", "[]", ""},
		{"SADD s", "-ERR args", ""}, {"SREM s", "-ERR args", ""}, {"SISMEMBER s", "-ERR args", ""}, {"SISMEMBER s a b", "-ERR args", ""}, {"SCARD s s", "-ERR args", ""}, {"SMEMBERS", "-ERR args", ""}, {"SINTER", "-ERR args", ""},
	}...)
}

func TestRanks(t *testing.T) {
	k := keys.New()
	play(t, k, 0, [][3]string{
		{"ZADD z 2 a 1 b", "2", "14 z a  2; 14 z b  1"}, {"ZRANGE z 0 -1", "['b' 'a']", ""}, {"ZRANK z a", "1", ""}, {"ZINCRBY z -2 a", "'0'", "14 z a  0"}, {"ZADD z 5 c 5 d 3 c 1 a", "2", "14 z c  5; 14 z d  5; 14 z c  3; 14 z a  1"}, {"ZRANGE z 0 -1", "['a' 'b' 'c' 'd']", ""},
		{"ZSCORE z d", "'5'", ""}, {"ZSCORE z x", "nil", ""}, {"ZSCORE none x", "nil", ""}, {"ZRANK z x", "nil", ""}, {"ZRANK none x", "nil", ""}, {"ZRANK z d", "3", ""}, {"ZCARD z", "4", ""}, {"ZCARD none", "0", ""}, {"ZRANGE z 1 -2", "['b' 'c']", ""}, {"ZRANGE z 3 1", "[]", ""}, {"ZRANGE none 0 -1", "[]", ""}, {"ZRANGE z -9 9", "['a' 'b' 'c' 'd']", ""},
		{"ZRANGEBYSCORE z 1 3", "['a' 'b' 'c']", ""}, {"ZRANGEBYSCORE z 2 2", "[]", ""}, {"ZRANGEBYSCORE z 3 1", "[]", ""}, {"ZRANGEBYSCORE z -9223372036854775808 9223372036854775807", "['a' 'b' 'c' 'd']", ""}, {"ZRANGEBYSCORE none 1 2", "[]", ""},
		{"ZINCRBY z 7 new", "'7'", "14 z new  7"}, {"ZADD z 9223372036854775807 top -9223372036854775808 low", "2", "*"}, {"ZINCRBY z 1 top", "-ERR over", ""}, {"ZINCRBY z -1 low", "-ERR over", ""}, {"ZINCRBY z 9223372036854775807 low", "'-1'", "*"}, {"ZSCORE z low", "'-1'", ""},
		{"ZREM z a x a b", "2", "15 z a  0; 15 z b  0"}, {"ZREM none a", "0", ""}, {"ZREM z low top c d new", "5", "*"}, {"ZCARD z", "0", ""},
		{"ZADD z", "-ERR args", ""}, {"ZADD z 1", "-ERR args", ""}, {"ZADD z 1 a 2", "-ERR args", ""}, {"ZADD z x a", "-ERR number", ""}, {"ZADD z 1 a 1.5 b", "-ERR number", ""}, {"ZREM z", "-ERR args", ""}, {"ZSCORE z", "-ERR args", ""}, {"ZSCORE z a b", "-ERR args", ""}, {"ZINCRBY z 1", "-ERR args", ""}, {"ZINCRBY z a 1", "-ERR number", ""},
		{"ZCARD z z", "-ERR args", ""}, {"ZRANK z", "-ERR args", ""}, {"ZRANGE z 0", "-ERR args", ""}, {"ZRANGE z 0 x", "-ERR number", ""}, {"ZRANGEBYSCORE z 0", "-ERR args", ""}, {"ZRANGEBYSCORE z a b", "-ERR number", ""},
	}...)
	var args []string
	for i := range 30 {
		args = append(args, strconv.Itoa(i%10), "m"+strconv.Itoa(i%20))
	}
	if r, _ := ask(t, k, 0, append([]string{"ZADD", "z"}, args...)...); told(r) != "20" {
		t.Error(told(r))
	}
	if r, _ := ask(t, k, 0, append([]string{"ZADD", "z"}, args...)...); told(r) != "0" {
		t.Error(told(r))
	}
	if r, l := ask(t, k, 0, append([]string{"ZREM", "z"}, args...)...); told(r) != "20" || len(l) != 20 {
		t.Error(told(r))
	}
}

func TestKinds(t *testing.T) {
	k := keys.New()
	l := []api.Effect{{Op: api.EffText, Key: "t", Text: "x"}, {Op: api.EffHash, Key: "h", Name: "f"}, {Op: api.EffTail, Key: "l", Text: "a"}, {Op: api.EffAdd, Key: "s", Name: "m"}, {Op: api.EffRank, Key: "z", Name: "m"}}
	if _, e := k.Apply(l...); e != api.OK {
		t.Fatal(e)
	}
	for own, lines := range map[string]string{
		"h": "HSET K f 1|HGET K f|HDEL K f|HLEN K|HGETALL K|HINCRBY K f 1", "l": "LPUSH K a|RPUSH K a|LPOP K|RPOP K|LLEN K|LINDEX K 0|LRANGE K 0 1|LSET K 0 a",
		"s": "SADD K m|SREM K m|SISMEMBER K m|SCARD K|SMEMBERS K|SINTER K|SINTER s K|SINTER none K", "z": "ZADD K 1 m|ZREM K m|ZSCORE K m|ZINCRBY K 1 m|ZCARD K|ZRANK K m|ZRANGE K 0 1|ZRANGEBYSCORE K 0 1",
	} {
		for _, line := range strings.Split(lines, "|") {
			for _, key := range []string{"t", "h", "l", "s", "z"} {
				args := strings.Split(line, " ")
				for i := 1; i < len(args); i++ {
					if args[i] == "K" {
						args[i] = key
					}
				}
				r, _ := ask(t, k.Copy(), 0, args...)
				if (told(r) == "-WRONGTYPE") == (key == own) {
					t.Error(line, key, told(r))
				}
			}
		}
	}
	play(t, k, 0, [3]string{"LINDEX h x", "-ERR number", ""}, [3]string{"ZADD t x m", "-ERR number", ""}, [3]string{"HINCRBY l f x", "-ERR number", ""}, [3]string{"SADD t", "-ERR args", ""})
}

func TestGone(t *testing.T) {
	for _, c := range [][3]string{
		{"HSET k f 1 g 2", "2", "1 k   0; 5 k f 1 0; 5 k g 2 0"}, {"HINCRBY k f 1", "1", "1 k   0; 5 k f 1 0"}, {"LPUSH k a b", "2", "1 k   0; 7 k  a 0; 7 k  b 0"}, {"RPUSH k a", "1", "1 k   0; 8 k  a 0"}, {"SADD k m m n", "2", "1 k   0; 12 k m  0; 12 k n  0"}, {"ZADD k 1 m", "1", "1 k   0; 14 k m  1"}, {"ZINCRBY k 1 m", "'1'", "1 k   0; 14 k m  1"},
		{"HGET k f", "nil", ""}, {"HDEL k f", "0", ""}, {"HGETALL k", "[]", ""}, {"LPOP k", "nil", ""}, {"RPOP k", "nil", ""}, {"LSET k 0 x", "-ERR range", ""}, {"LRANGE k 0 -1", "[]", ""}, {"SREM k m", "0", ""}, {"SMEMBERS k", "[]", ""}, {"SINTER k", "[]", ""}, {"ZREM k m", "0", ""}, {"ZSCORE k m", "nil", ""}, {"ZRANGE k 0 -1", "[]", ""},
	} {
		for _, e := range []api.Effect{{Op: api.EffText, Key: "k", Text: "x"}, {Op: api.EffHash, Key: "k", Name: "f", Text: "v"}, {Op: api.EffTail, Key: "k", Text: "a"}, {Op: api.EffAdd, Key: "k", Name: "m"}, {Op: api.EffRank, Key: "k", Name: "m"}} {
			k := keys.New()
			k.Apply(e, api.Effect{Op: api.EffUntil, Key: "k", Int: 5})
			play(t, k, 5, c)
		}
	}
	k := keys.New()
	k.Apply(api.Effect{Op: api.EffTail, Key: "k", Text: "a"}, api.Effect{Op: api.EffUntil, Key: "k", Int: 5})
	play(t, k, 4, [3]string{"RPUSH k b", "2", "8 k  b 0"})
	if x, _ := k.Look("k"); !x.HasUntil || x.Until != 5 {
		t.Error("its time", x)
	}
}

func TestLong(t *testing.T) {
	long := strings.Repeat("x", api.MaxText)
	many := make([]string, api.MaxItems)
	twice := make([]string, 0, 2*api.MaxItems)
	for i := range many {
		many[i] = strconv.Itoa(i)
		twice = append(twice, many[i], many[i])
	}
	k := keys.New()
	for i, c := range []struct {
		want string
		args []string
	}{
		{"65536", append([]string{"RPUSH", "l"}, many...)}, {"-ERR long", []string{"RPUSH", "l", "x"}}, {"-ERR long", []string{"LPUSH", "l", "x"}}, {"+OK", []string{"LSET", "l", "0", "x"}}, {"-ERR long", []string{"LPUSH", "none", long + "x"}},
		{"65536", append([]string{"SADD", "s"}, many...)}, {"-ERR long", []string{"SADD", "s", "x"}}, {"0", []string{"SADD", "s", "7"}}, {"65536", append([]string{"HSET", "h"}, twice...)}, {"-ERR long", []string{"HSET", "h", "x", "y"}}, {"0", []string{"HSET", "h", "7", "y"}}, {"-ERR long", []string{"HINCRBY", "h", "x", "1"}}, {"9", []string{"HINCRBY", "h", "8", "1"}},
		{"65536", append([]string{"ZADD", "z"}, twice...)}, {"-ERR long", []string{"ZADD", "z", "1", "x"}}, {"-ERR long", []string{"ZINCRBY", "z", "1", "x"}}, {"0", []string{"ZADD", "z", "1", "7"}}, {"'9'", []string{"ZINCRBY", "z", "1", "8"}}, {"65535", []string{"ZRANK", "z", "65535"}},
		{"1", []string{"HDEL", "h", "9"}}, {"1", []string{"HINCRBY", "h", "x", "1"}}, {"-ERR long", []string{"HINCRBY", "h", "y", "1"}}, {"1", []string{"ZREM", "z", "9"}}, {"'1'", []string{"ZINCRBY", "z", "1", "x"}}, {"-ERR long", []string{"ZINCRBY", "z", "1", "y"}}, {"1", []string{"SREM", "s", "9"}}, {"1", []string{"SADD", "s", "x", "7"}}, {"'x'", []string{"LPOP", "l"}}, {"-ERR long", []string{"LPUSH", "l", "x", "y"}}, {"65536", []string{"LPUSH", "l", "x"}}, {"-ERR long", []string{"HSET", "g", long + "x", ""}}, {"-ERR long", []string{"HSET", "g", "f", long + "x"}}, {"-ERR long", []string{"SADD", "t", "a", long + "x"}}, {"-ERR long", []string{"ZADD", "y", "1", long + "x"}}, {"-ERR long", []string{"RPUSH", long + "x", "a"}}, {"1", []string{"RPUSH", long, long}}, {"-ERR long", []string{"LSET", "l", "0", long + "x"}},
	} {
		if r, _ := ask(t, k, 0, c.args...); told(r) != c.want {
			t.Error(i, told(r)[:min(20, len(told(r)))])
		}
	}
	if _, ok := k.Look("g"); ok {
		t.Error("what is refused made something")
	}
}

func TestKnown(t *testing.T) {
	k := keys.New()
	for i, args := range [][]string{nil, {}, {""}, {"FOO", "a"}, {"GET", "a"}, {"HLEN "}, {"\u017fADD", "a", "b"}} {
		if r, l, ok := colls.Do(k, 0, args...); ok || l != nil || !basics.Same(r, api.Reply{}) {
			t.Error(i, r, l)
		}
	}
	for _, none := range []*keys.Keys{nil, {}} {
		if r, l, ok := colls.Do(none, 0, "HGET", "a", "f"); ok || l != nil || !basics.Same(r, api.Reply{}) {
			t.Error("of none", r)
		}
	}
	want := strings.Fields("HDEL HGET HGETALL HINCRBY HLEN HSET LINDEX LLEN LPOP LPUSH LRANGE LSET RPOP RPUSH SADD SCARD SINTER SISMEMBER SMEMBERS SREM ZADD ZCARD ZINCRBY ZRANGE ZRANGEBYSCORE ZRANK ZREM ZSCORE")
	if got := colls.Names(); !slices.Equal(got, want) {
		t.Error(got)
	}
	for _, name := range want {
		if r, _, ok := colls.Do(k, math.MinInt64, strings.ToLower(name)); !ok || told(r) != "-ERR args" {
			t.Error(name, told(r))
		}
	}
}
