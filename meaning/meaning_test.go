package meaning_test

import (
	"math"
	"slices"
	"strconv"
	"strings"
	"testing"

	"tabor/api"
	"tabor/keys"
	"tabor/meaning"
	"tabor/resp"
	"tabor/syntax"
)

// told writes a reply in short.
func told(r api.Reply) string {
	switch r.Kind {
	case api.ReplyNone:
		return "nil"
	case api.ReplyStatus:
		return "+" + r.Text
	case api.ReplyError:
		return "-" + r.Text
	case api.ReplyInt:
		return strconv.FormatInt(r.Int, 10)
	case api.ReplyText:
		return "'" + r.Text + "'"
	}
	var l []string
	for _, x := range r.List {
		l = append(l, told(x))
	}
	return "[" + strings.Join(l, " ") + "]"
}

// changes writes effects in short.
func changes(l []api.Effect) string {
	var out []string
	for _, e := range l {
		out = append(out, strconv.Itoa(int(e.Op))+" "+e.Key+" "+e.Name+" "+e.Text+" "+strconv.FormatInt(e.Int, 10))
	}
	return strings.Join(out, "; ")
}

func plenty() api.Running {
	return api.Running{Keys: []string{"k1", "k2"}, Args: []string{"x", "7", ""}, Now: 5, Fuel: 100000, Cells: 100000, Depth: 100}
}

// done does a script, and holds its effects against its keyspace.
func done(t *testing.T, k *keys.Keys, s string, in api.Running) api.Ran {
	t.Helper()
	was := k.Copy()
	r, e := meaning.Text(k, s, in)
	if e != api.OK {
		t.Fatalf("%s: %v", s, e)
	}
	if n, e := was.Apply(r.Effects...); n != len(r.Effects) || e != api.OK || !was.Same(k) {
		t.Fatalf("%s: effects %v", s, e)
	}
	return r
}

func TestScripts(t *testing.T) {
	for s, want := range map[string]string{
		"": "nil", "return": "nil", "return nil": "nil", "return true": "1", "return false": "nil", "return 5": "5", "return 'a b'": "'a b'", "return {}": "[]", "return {1, {2, 'x'}, false}": "[1 [2 'x'] nil]", "return {ok = 'FINE'}": "+FINE", "return {err = 'NO'}": "-NO", "return {1, nil, 3}": "[1]",
		"return KEYS[1] .. #ARGV": "'k13'", "return KEYS": "['k1' 'k2']", "return ARGV": "['x' '7' '']", "return KEYS[3]": "nil", "local KEYS = 3 return KEYS": "3",
		"local n = 0 for i = 1, 3 do n = n + i end return n": "6", "local t = {} for i = 3, 1, -1 do t[#t + 1] = i end return t": "[3 2 1]", "local n = 0 for i = 1, 0 do n = 1 end return n": "0", "local n = 0 for i = 1, 10, 4 do n = n * 100 + i end return n": "10509", "local n = 0 for i = 5, 5 do n = n + 1 i = 100 end return n": "1", "local n = 0 for i = 1, 3 do i = i * 10 n = n + i end return n": "60",
		"local n = 0 for i = 9223372036854775806, 9223372036854775807 do n = n + 1 end return n": "2", "local n = 0 for i = -9223372036854775807, -9223372036854775807 - 1, -1 do n = n + 1 end return n": "2", "local n = 0 for i = 1, 9223372036854775807, 9223372036854775807 do n = n + 1 end return n": "1", "for i = 'a', 1 do end": "-ERR type", "for i = 1, nil do end": "-ERR type", "for i = 1, 2, 0 do end": "-ERR zero", "for i = 1, 2, 'x' do end": "-ERR type", "for i = 1, 'x', 0 do end": "-ERR type",
		"local i = 0 while i < 5 do i = i + 1 if i == 3 then break end end return i": "3", "local n = 0 while true do n = n + 1 while true do break end if n > 3 then break end end return n": "4", "while nil do end return 1": "1", "local i = 3 while i ~= 0 do i = i - 1 end return i": "0", "for i = 1, 9 do for j = 1, 9 do if j == 2 then break end if i == 3 then return i * 10 + j end end end": "31",
		"if nil then return 1 elseif false then return 2 else return 3 end": "3", "if 0 then return 1 end": "1", "if '' then return 1 end": "1", "if nil then return 1 elseif {} then return 2 else return 3 end": "2", "if false then return 1 end return 4": "4", "if false then return 1 elseif nil then return 2 end": "nil",
		"local a, b = 1 return b": "nil", "local a, b = 1, 2 return a * 10 + b": "12", "local a = 1 do local a = 2 end return a": "1", "local a = 1 local a = a + 1 return a": "2", "local x = 5 do local y = x x = y + 1 end return x": "6", "for i = 1, 2 do local a if i == 1 then a = 7 else return a end end": "nil", "local a, b = 1, 2 local b, a = a, b return {a, b}": "[2 1]",
		"local function f(a, b) return a - b end return f(7, 2)": "5", "local function f() end return f()": "nil", "local function f(n) if n < 2 then return n end return f(n - 1) + f(n - 2) end return f(12)": "144", "local function f(t) t.x = 1 end local t = {} f(t) return t.x": "1", "local function f(a) local b b = a return b end return {f(1), f(2)}": "[1 2]", "local function f() return KEYS[2] end return f()": "'k2'", "local function f(a) a = a + 1 return a end local a = 1 f(a) return a": "1", "local function len(x) return 'mine' end return len(1)": "'mine'", "local function f() while true do return 3 end end return f()": "3", "local function f() local x return x end local function g(a) return f() end return g(5)": "nil",
		"return 1 and 2": "2", "return nil and 2": "nil", "return false or 3": "3", "return nil or false": "nil", "return 1 or error('x')": "1", "return nil and error('x')": "nil", "return not nil": "1", "return not 0": "nil", "return not not 'x'": "1", "return 7 / 2": "3", "return -7 / 2": "-4", "return -7 % 3": "2", "return 2 + 3 * 4": "14", "return -(3)": "-3", "return 'a' .. 1 .. -2": "'a1-2'", "return 1 < 2": "1", "return 'a' >= 'b'": "nil", "return 1 == '1'": "nil", "return nil == false": "nil", "local t = {} return t == t": "1", "return {} == {}": "nil", "return 1 ~= 2": "1", "return #'abc'": "3", "return #{1, 2, nil, 4}": "2",
		"return {1, x = 2, 3}.x": "<syntax>", "return ({1, x = 2, 3})[2]": "3", "return ({1, x = 2, 3}).x": "2", "local t = {[1] = 'a', 'b'} return t": "['b']", "local t = {'b', [1] = 'a'} return t": "['a']", "local t = {a = 1, ['b' .. 1] = 2} return t.b1": "2", "local t = {} t.x = {y = {}} t.x.y.z = 5 return t.x.y.z": "5", "local t = {1, 2} t[2] = nil return #t": "1", "local t = {nil, 2} return #t": "0", "local t = {} t[1] = t return 1": "1",
		"return 1 / 0": "-ERR zero", "return 1 % 0": "-ERR zero", "return {} + 1": "-ERR type", "return 9223372036854775807 + 1": "-ERR over", "return -(-9223372036854775807 - 1)": "-ERR over", "return -'a'": "-ERR type", "return -{}": "-ERR type", "return #5": "-ERR type", "return nil .. 'a'": "-ERR type", "return 1 < 'a'": "-ERR type", "return nil[1]": "<syntax>", "local t return t[1]": "-ERR type", "local t t.x = 1": "-ERR type", "local t = {} t[nil] = 1": "-ERR key", "local t = {} return t[true]": "-ERR key", "return {[nil] = 1}": "-ERR key", "local t = {} t[1] = t return t": "-ERR reply", "return {err = 'a\\nb'}": "-ERR reply",
		"error('no')": "-no", "error(5)": "-5", "error()": "-ERR error", "error({})": "-ERR error", "error(nil)": "-ERR error", "error('a', 'b')": "-a", "error('a\\nb')": "-a\nb", "local function f() error('deep') end f() return 1": "-deep", "for i = 1, 3 do while true do error('x' .. i) end end": "-x1",
		"return type(nil) .. type(1) .. type('') .. type({}) .. type(true)": "'nilnumberstringtableboolean'", "return len('abc')": "3", "return len(1)": "-ERR type", "return len()": "-ERR args", "return rep('a', 2000000)": "-ERR long", "return char(300)": "-ERR range", "local t = {1, 2} insert(t, 3) return concat(t, '-')": "'1-2-3'", "return tonumber('12') + 1": "13", "return tostring({})": "'table:2'", "return keys({a = 1, 5})": "[1 'a']", "return insert({}, 1)": "nil",
	} {
		if want == "<syntax>" {
			if _, e := meaning.Text(keys.New(), s, plenty()); e != api.ErrSyntax {
				t.Error(s, e)
			}
			continue
		}
		k := keys.New()
		r := done(t, k, s, plenty())
		if told(r.Reply) != want || len(r.Effects) != 0 {
			t.Errorf("%s: %s, not %s", s, told(r.Reply), want)
		}
		in := plenty()
		in.Fuel, in.Cells = r.Fuel, r.Cells
		if again := done(t, keys.New(), s, in); !resp.Same(again.Reply, r.Reply) || again.Fuel != r.Fuel || again.Cells != r.Cells {
			t.Error("with just what was taken", s, told(again.Reply))
		}
		if r.Fuel > 0 {
			in.Fuel--
			if again := done(t, keys.New(), s, in); told(again.Reply) != "-ERR fuel" || again.Fuel != in.Fuel {
				t.Error("with less fuel", s, told(again.Reply))
			}
		}
	}
}

func TestCalls(t *testing.T) {
	for i, c := range [][3]string{
		{"call('SET', 'a', 1) return call('INCR', 'a')", "2", "2 a  1 0; 2 a  2 0"}, {"return call('INCR', KEYS[1])", "1", "2 k1  1 0"}, {"return call('set', 'a', 'b')", "+OK", "2 a  b 0"}, {"return call('GET', 'a')", "nil", ""}, {"return call('GET', 'a') == false", "1", ""}, {"call('RPUSH', 'l', 1, 2) return call('LRANGE', 'l', 0, -1)", "['1' '2']", "8 l  1 0; 8 l  2 0"}, {"return call('TYPE', 'a').ok", "'none'", ""},
		{"call('SET', 'a', 1) error('no')", "-no", "2 a  1 0"}, {"call('SET', 'a', 'x') call('INCR', 'a') call('SET', 'a', 2)", "-ERR number", "2 a  x 0"}, {"call('SET', 'a', 'x') local r = try('INCR', 'a') call('SET', 'b', r.err)", "nil", "2 a  x 0; 2 b  ERR number 0"}, {"return try('GET').err", "'ERR args'", ""}, {"return try('GET')", "-ERR args", ""}, {"return call('GET')", "-ERR args", ""}, {"return try('FOO')", "-ERR unknown", ""}, {"return call('FOO') or 1", "-ERR unknown", ""},
		{"return call()", "-ERR args", ""}, {"return try()", "-ERR args", ""}, {"return call('GET', nil)", "-ERR type", ""}, {"return try('GET', {})", "-ERR type", ""}, {"return call(nil)", "-ERR type", ""}, {"return call('GET', true)", "-ERR type", ""}, {"return try(5)", "-ERR unknown", ""}, {"return try('SET', 'a', 1).ok", "'OK'", "2 a  1 0"}, {"call('SET', 'a', -5) return call('GET', 'a')", "'-5'", "2 a  -5 0"}, {"call('SET', 'a', 'b', 'PX', 3) return call('PTTL', 'a')", "3", "2 a  b 0; 3 a   8"},
		{"return call('MGET', 'a', 'b')[2] == false", "1", ""}, {"return #call('MGET', 'a', 'b')", "2", ""}, {"local function f(k) return call('INCR', k) end f('a') f('b') return f('a')", "2", "2 a  1 0; 2 b  1 0; 2 a  2 0"}, {"call('SADD', 's', 'b', 'a') call('DEL', 's') return call('DBSIZE')", "0", "12 s b  0; 12 s a  0; 1 s   0"}, {"while true do if call('INCR', 'n') > 2 then break end end return try('HGET', 'n', 'f')", "-WRONGTYPE", "2 n  1 0; 2 n  2 0; 2 n  3 0"}, {"return call('GET', 'a', 'b') and error('x')", "-ERR args", ""},
	} {
		r := done(t, keys.New(), c[0], plenty())
		if told(r.Reply) != c[1] || changes(r.Effects) != c[2] {
			t.Errorf("%d %s: %s (%s)", i, c[0], told(r.Reply), changes(r.Effects))
		}
	}
	k := keys.New()
	in := plenty()
	done(t, k, "call('SET', 'a', 'x', 'PX', 3)", in)
	in.Now = 7
	if r := done(t, k, "return call('GET', 'a')", in); told(r.Reply) != "'x'" {
		t.Error(told(r.Reply))
	}
	in.Now = 8
	if r := done(t, k, "call('APPEND', 'a', 'y') return call('GET', 'a')", in); told(r.Reply) != "'y'" || changes(r.Effects) != "1 a   0; 2 a  y 0" {
		t.Error(told(r.Reply), changes(r.Effects))
	}
}

func TestFuel(t *testing.T) {
	for s, want := range map[string]int{
		"": 1, "return": 2, "return 1": 3, "local a": 2, "local a, b = 1, 2": 4, "local a a = 1": 4, "local t = {} t[1] = 2": 7, "local t = {} t.x.y = 2": 9, "do end": 3, "if nil then end": 3, "if true then end": 4, "if nil then else end": 4, "if nil then elseif 1 then end": 5, "while nil do end": 3, "for i = 1, 2 do end": 6, "for i = 1, 2, 3 do end": 6, "for i = 2, 1 do end": 4,
		"local i = 2 while i > 0 do i = i - 1 end": 1 + 2 + 1 + 3*3 + 2*(1+1+3), "local function f() end": 2, "local function f() end f()": 4, "local function f(a) return a end f(1)": 7, "return {1, 2, x = 3}": 7, "return 1 + 2": 5, "return 1 and 2": 5, "return nil and 2": 4, "return not -#'a'": 6, "return KEYS[1]": 5, "call('GET', 'a')": 4, "while true do break end": 5, "return 1 / 0": 5, "error('x')": 3, "return {}": 3, "local a a = ({}).x": 6, "return len('a')": 4,
	} {
		if r := done(t, keys.New(), s, plenty()); r.Fuel != want {
			t.Errorf("%s: %d, not %d", s, r.Fuel, want)
		}
	}
	k := keys.New()
	in := plenty()
	in.Fuel = 50
	r := done(t, k, "while true do call('INCR', 'n') end", in)
	if told(r.Reply) != "-ERR fuel" || r.Fuel != 50 || len(r.Effects) != 9 {
		t.Error(told(r.Reply), r.Fuel, len(r.Effects))
	}
}

func TestCells(t *testing.T) {
	for s, want := range map[string]int{"": 7, "return {}": 8, "return {1, x = 2, nil}": 10, "return 'a long text that is a constant'": 7, "return 'a' .. 'b'": 8, "return call('GET', 'a')": 7, "return call('TYPE', 'a')": 10, "local t = {} t.x = 1 t.x = nil t.x = 2": 10, "return KEYS[1]": 7, "return tostring(1)": 8, "return try('GET')": 10} {
		if r := done(t, keys.New(), s, plenty()); r.Cells != want {
			t.Errorf("%s: %d, not %d", s, r.Cells, want)
		}
	}
	for cells := range 10 {
		in := plenty()
		in.Cells = cells
		r := done(t, keys.New(), "call('SET', 'a', 1) return 1", in)
		if want := "1"; cells >= 10 && told(r.Reply) != want || cells < 7 && (told(r.Reply) != "-ERR memory" || r.Fuel != 0 || r.Cells != cells || len(r.Effects) > 0) || cells >= 7 && cells < 10 && (told(r.Reply) != "-ERR memory" || len(r.Effects) != 1) {
			t.Error(cells, told(r.Reply), r.Fuel, r.Cells)
		}
	}
}

func TestDepth(t *testing.T) {
	down := "local function f(n) if n == 0 then return 0 end return f(n - 1) + 1 end return f(ARGV[1] == 'x' and "
	for i, c := range []struct {
		n, depth int
		want     string
	}{{0, 2, "0"}, {0, 1, "-ERR depth"}, {5, 7, "5"}, {5, 6, "-ERR depth"}, {198, 200, "198"}, {199, 200, "-ERR depth"}, {199, 1 << 40, "-ERR depth"}, {198, 1 << 40, "198"}} {
		in := plenty()
		in.Depth = c.depth
		if r := done(t, keys.New(), down+strconv.Itoa(c.n)+")", in); told(r.Reply) != c.want {
			t.Error(i, told(r.Reply))
		}
	}
	for _, depth := range []int{0, -1, math.MinInt} {
		in := plenty()
		in.Depth = depth
		if r := done(t, keys.New(), "return 1", in); told(r.Reply) != "-ERR depth" || r.Fuel != 0 || r.Cells != 7 {
			t.Error(depth, told(r.Reply), r.Fuel)
		}
		in.Fuel = 0
		if r := done(t, keys.New(), "return 1", in); told(r.Reply) != "-ERR depth" {
			t.Error(depth, told(r.Reply))
		}
	}
	in := plenty()
	in.Depth = 1
	if r := done(t, keys.New(), "return 1", in); told(r.Reply) != "1" {
		t.Error(told(r.Reply))
	}
	if r := done(t, keys.New(), "local function f() return f() end return f()", plenty()); told(r.Reply) != "-ERR depth" {
		t.Error(told(r.Reply))
	}
}

func TestBounds(t *testing.T) {
	in := plenty()
	in.Fuel = math.MinInt
	if r := done(t, keys.New(), "return 1", in); told(r.Reply) != "-ERR fuel" || r.Fuel != 0 {
		t.Error(told(r.Reply))
	}
	in.Fuel, in.Cells = 5, -1
	if r := done(t, keys.New(), "return 1", in); told(r.Reply) != "-ERR memory" || r.Cells != 0 {
		t.Error(told(r.Reply))
	}
	in.Fuel, in.Cells = math.MaxInt, math.MaxInt
	if r := done(t, keys.New(), "while true do end", in); told(r.Reply) != "-ERR fuel" || r.Fuel != api.MaxFuel {
		t.Error(told(r.Reply), r.Fuel)
	}
	if r := done(t, keys.New(), "while true do local t = {} end", in); told(r.Reply) != "-ERR memory" || r.Cells != api.MaxCells {
		t.Error(told(r.Reply), r.Cells)
	}
}

func TestErrors(t *testing.T) {
	good, _, _ := syntax.Parse("return 1")
	bad := api.Node{Kind: api.NodeInt}
	unknown, _, _ := syntax.Parse("return a")
	long := strings.Repeat("x", api.MaxText+1)
	few := plenty()
	many := api.Running{Keys: make([]string, api.MaxItems), Args: []string{""}, Fuel: 100, Cells: 1 << 20, Depth: 5}
	most := many
	most.Args = nil
	for i, c := range []struct {
		k    *keys.Keys
		n    api.Node
		in   api.Running
		want api.Errno
	}{
		{nil, bad, many, api.ErrNil}, {&keys.Keys{}, good, few, api.ErrNil}, {keys.New(), bad, few, api.ErrArg}, {keys.New(), good, many, api.ErrArg}, {keys.New(), good, api.Running{Keys: []string{long}}, api.ErrArg}, {keys.New(), good, api.Running{Args: []string{"", long}}, api.ErrArg}, {keys.New(), unknown, many, api.ErrArg}, {keys.New(), unknown, few, api.ErrName}, {keys.New(), good, most, api.OK}, {keys.New(), good, api.Running{Args: []string{long[1:]}, Fuel: 9, Cells: 9, Depth: 1}, api.OK},
	} {
		r, e := meaning.Run(c.k, c.n, c.in)
		if e != c.want || e != api.OK && (r.Fuel != 0 || r.Cells != 0 || r.Effects != nil || !resp.Same(r.Reply, api.Reply{})) || e == api.OK && told(r.Reply) != "1" {
			t.Error(i, e, r)
		}
	}
	for s, want := range map[string]api.Errno{"return +": api.ErrSyntax, "@": api.ErrWord, long: api.ErrLong, strings.Repeat("do ", 101) + strings.Repeat("end ", 101): api.ErrDeep, "return a": api.ErrName, "break": api.ErrLoop, "local a, a": api.ErrTwice, "local function f() end f(1)": api.ErrCount} {
		if r, e := meaning.Text(keys.New(), s, few); e != want || r.Effects != nil || r.Fuel != 0 {
			t.Errorf("%.40s: %v", s, e)
		}
	}
	if _, e := meaning.Text(nil, "return +", few); e != api.ErrSyntax {
		t.Error(e)
	}
	if _, e := meaning.Text(nil, "return a", few); e != api.ErrNil {
		t.Error(e)
	}
	in := plenty()
	was := slices.Clone(in.Keys)
	done(t, keys.New(), "KEYS[1] = 'changed' KEYS[2] = nil", in)
	if !slices.Equal(in.Keys, was) {
		t.Error("the keys that were handed in are changed")
	}
}
