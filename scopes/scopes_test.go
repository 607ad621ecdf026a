package scopes_test

import (
	"slices"
	"strconv"
	"strings"
	"testing"

	"tabor/api"
	"tabor/scopes"
	"tabor/syntax"
)

func parsed(t *testing.T, s string) api.Node {
	t.Helper()
	n, at, e := syntax.Parse(s)
	if e != api.OK {
		t.Fatalf("%.60s: %v at %d", s, e, at)
	}
	return n
}

// told writes what was resolved in short: each local, for, name, call, function with its Int.
func told(n api.Node) string {
	var out []string
	for k := range syntax.All(n) {
		switch k.Kind {
		case api.NodeLocal, api.NodeFor:
			out = append(out, strings.Join(k.Names, ",")+":"+strconv.FormatInt(k.Int, 10))
		case api.NodeName:
			out = append(out, k.Name+"="+strconv.FormatInt(k.Int, 10))
		case api.NodeCall:
			out = append(out, k.Name+"()"+strconv.FormatInt(k.Int, 10))
		case api.NodeFunc:
			out = append(out, "fn "+k.Name+strconv.FormatInt(k.Int, 10))
		default:
			if k.Int != 0 && k.Kind != api.NodeInt {
				out = append(out, "?")
			}
		}
	}
	return strings.Join(out, " ")
}

func infos(l []api.FuncInfo) string {
	var out []string
	for _, f := range l {
		out = append(out, f.Name+" "+strconv.Itoa(f.Params)+" "+strconv.Itoa(f.Slots))
	}
	return strings.Join(out, "; ")
}

// bare takes the Ints away that resolving put.
func bare(n api.Node) api.Node {
	if n.Kind != api.NodeInt {
		n.Int = 0
	}
	n.Kids = slices.Clone(n.Kids)
	for i := range n.Kids {
		n.Kids[i] = bare(n.Kids[i])
	}
	return n
}

func TestResolve(t *testing.T) {
	for i, c := range [][3]string{
		{"", "", " 0 0"},
		{"local a local b = a do local c end local d", "a:0 b:1 a=0 c:2 d:2", " 0 3"},
		{"local function f(x) return f(x) end return f(KEYS)", "fn f1 f()1 x=0 f()1 KEYS=-1", " 0 0; f 1 1"},
		{"return ARGV[1] .. KEYS[2]", "ARGV=-2 KEYS=-1", " 0 0"},
		{"local KEYS KEYS = 1 return ARGV", "KEYS:0 KEYS=0 ARGV=-2", " 0 1"},
		{"local a local a = a a = a", "a:0 a:1 a=0 a=1 a=1", " 0 2"},
		{"local a, b, c local d = b", "a,b,c:0 d:3 b=1", " 0 4"},
		{"local a do local a a = 1 end a = 2", "a:0 a:1 a=1 a=0", " 0 2"},
		{"for i = 1, 2 do local j = i end for k = 3, 4 do k = k end", "i:0 j:1 i=0 k:0 k=0 k=0", " 0 2"},
		{"local i for i = i, i do i = 1 end i = 2", "i:0 i:1 i=0 i=0 i=1 i=0", " 0 2"},
		{"local a while a do local b = a break end local c", "a:0 a=0 b:1 a=0 c:1", " 0 2"},
		{"local a if a then local b elseif a then local c = a else local d end", "a:0 a=0 b:1 a=0 c:1 a=0 d:1", " 0 2"},
		{"local a local function f(b, c) local d = b return d end local e = f(a, a)", "a:0 fn f1 d:2 b=0 d=2 e:1 f()1 a=0 a=0", " 0 2; f 2 3"},
		{"local function f() end local function f(x) end f(1)", "fn f1 fn f2 f()2", " 0 0; f 0 0; f 1 1"},
		{"do local function len() end len() end len(1, 2)", "fn len1 len()1 len()-1", " 0 0; len 0 0"},
		{"local function f() local function g(x) return f() end return g(1) end local function h() return f() end", "fn f1 fn g2 f()1 g()2 fn h3 f()1", " 0 0; f 0 0; g 1 1; h 0 0"},
		{"local function f(f) return f end local f = f(1) return f", "fn f1 f=0 f:0 f()1 f=0", " 0 1; f 1 1"},
		{"local function f() while true do break end end while true do local function g() end break end", "fn f1 fn g2", " 0 0; f 0 0; g 0 0"},
		{"call('GET', KEYS[1]) try() error() return type(tostring(tonumber(len(sub(rep(find(byte(char(concat(insert(remove(keys()))))))))))))", "call()-1 KEYS=-1 try()-1 error()-1 type()-1 tostring()-1 tonumber()-1 len()-1 sub()-1 rep()-1 find()-1 byte()-1 char()-1 concat()-1 insert()-1 remove()-1 keys()-1", " 0 0"},
		{"local t = {1, a = KEYS} t.x = t[t]", "t:0 KEYS=-1 t=0 t=0 t=0", " 0 1"},
		{"local function a() do local x, y end local z end local function b(p) for i = 1, 2 do local q end end", "fn a1 x,y:0 z:0 fn b2 i:1 q:2", " 0 0; a 0 2; b 1 3"},
	} {
		n := parsed(t, c[0])
		out, l, e := scopes.Resolve(n)
		if e != api.OK || told(out) != c[1] || infos(l) != c[2] {
			t.Errorf("%d %s: %s (%s) %v", i, c[0], told(out), infos(l), e)
		}
		if !syntax.Same(bare(out), n) || !syntax.Same(n, parsed(t, c[0])) {
			t.Error("another tree", i)
		}
		sum := 0
		for _, f := range l {
			sum += f.Slots
		}
		if scopes.Slots(l) != sum {
			t.Error("Slots", i)
		}
	}
}

// locals writes n locals, from a number on.
func locals(from, n int) string {
	var l []string
	for i := range n {
		l = append(l, "x"+strconv.Itoa(from+i))
	}
	return strings.Join(l, ", ")
}

func TestErrors(t *testing.T) {
	rep := strings.Repeat
	for i, c := range []struct {
		s    string
		want api.Errno
	}{
		{"return a", api.ErrName}, {"a = 1", api.ErrName}, {"f()", api.ErrName}, {"local a = a", api.ErrName}, {"do local a end return a", api.ErrName}, {"for i = 1, 2 do end return i", api.ErrName}, {"for i = i, 2 do end", api.ErrName}, {"local a local function f() return a end", api.ErrName}, {"f() local function f() end", api.ErrName}, {"do local function f() end end f()", api.ErrName}, {"local f f()", api.ErrName}, {"return keys", api.ErrName}, {"return len", api.ErrName}, {"a.b = 1", api.ErrName}, {"x()", api.ErrName}, {"local function f() g() end local function g() end", api.ErrName}, {"if a then end", api.ErrName}, {"return Keys", api.ErrName},
		{"local function f(a) end f()", api.ErrCount}, {"local function f(a) end f(1, 2)", api.ErrCount}, {"local function f() end f(x)", api.ErrCount}, {"local function f(a) return f() end", api.ErrCount}, {"local function len(a) end len(1, 2)", api.ErrCount},
		{"break", api.ErrLoop}, {"do break end", api.ErrLoop}, {"if true then break end", api.ErrLoop}, {"while true do local function f() break end end", api.ErrLoop}, {"for i = 1, 2 do end break", api.ErrLoop}, {"local function f() while true do end break end", api.ErrLoop},
		{"local a, a", api.ErrTwice}, {"local function f(a, b, a) end", api.ErrTwice}, {"KEYS = 1", api.ErrTwice}, {"ARGV = x", api.ErrTwice}, {"local function f() KEYS = 1 end", api.ErrTwice}, {"do local KEYS end KEYS = 1", api.ErrTwice}, {"local a, a = x", api.ErrName}, {"KEYS = x", api.ErrTwice},
		{"KEYS[1] = 2", api.OK}, {"local KEYS = 1 KEYS = 2", api.OK}, {"local a do local a end", api.OK}, {"local function f(a) local a end", api.OK},
		{"local " + locals(0, 250), api.OK}, {"local " + locals(0, 251), api.ErrMany}, {"local " + locals(0, 250) + " local a", api.ErrMany}, {"local " + locals(0, 250) + ", x7", api.ErrTwice}, {"local " + locals(0, 250) + " for i = 1, 2 do end", api.ErrMany}, {"local " + locals(0, 249) + " for i = 1, 2 do end", api.OK}, {"local " + locals(0, 249) + " for i = 1, 2 do local a end", api.ErrMany}, {"do local " + locals(0, 250) + " end do local " + locals(0, 250) + " end", api.OK},
		{"local function f(" + locals(0, 250) + ") end", api.OK}, {"local function f(" + locals(0, 251) + ") end", api.ErrMany}, {"local function f(" + locals(0, 250) + ", x3) end", api.ErrTwice}, {"local " + locals(0, 250) + " local function f(" + locals(0, 250) + ") end", api.OK}, {"local function f(" + locals(0, 250) + ") local a end", api.ErrMany}, {"local " + locals(0, 250) + " local a = b", api.ErrName}, {"local " + locals(0, 250) + " for i = b, 1 do end", api.ErrName}, {"local " + locals(0, 250) + " for i = 1, 2 do x() end", api.ErrMany},
		{rep("local function f() end ", 999), api.OK}, {rep("local function f() end ", 1000), api.ErrMany}, {rep("local function f() end ", 999) + "local function f(a, a) end", api.ErrMany}, {rep("local function f() end ", 999) + "break", api.ErrLoop},
		{"return a(b)", api.ErrName}, {"local function f() end return f(a)", api.ErrCount}, {"break return", api.ErrSyntax}, {"local function f() end local a, a = f(1)", api.ErrCount}, {"return len(a, f())", api.ErrName}, {"while break_ do break end", api.ErrName}, {"local function f() end x.y = f(1)", api.ErrName}, {"KEYS[f(1)] = x", api.ErrName},
	} {
		n, _, e := syntax.Parse(c.s)
		if e != api.OK {
			if e != c.want {
				t.Errorf("%.60s: %v", c.s, e)
			}
			continue
		}
		out, l, e := scopes.Resolve(n)
		if e != c.want || e != api.OK && (l != nil || !syntax.Same(out, api.Node{})) {
			t.Errorf("%d %.60s: %v", i, c.s, e)
		}
		for j, f := range l {
			if f.Slots > api.MaxRegs || f.Params > f.Slots || j == 0 && (f.Name != "" || f.Params != 0) {
				t.Error(i, f)
			}
		}
	}
	for i, n := range []api.Node{{Kind: 99}, {Kind: api.NodeInt}, {Kids: []api.Node{{Kind: api.NodeInt}}}, {Kids: []api.Node{{Kind: api.NodeLocal, Names: []string{"a"}, Int: 1}}}} {
		if out, l, e := scopes.Resolve(n); e != api.ErrArg || l != nil || !syntax.Same(out, api.Node{}) {
			t.Error(i, e)
		}
	}
}

// nests puts a script into parts that others may stand in, n of them in one another, each way.
func nests(s string, n int) []string {
	if n == 0 {
		return []string{s}
	}
	var out []string
	for _, in := range nests(s, n-1) {
		out = append(out,
			"do "+in+" end", "if nil then "+in+" end", "if nil then else "+in+" end", "while nil do "+in+" end", "for i = 1, 2 do "+in+" end",
			"local function g(p) "+in+" end", "local u, v "+in, "do local w end "+in)
	}
	return out
}

// TestErrorsWithin: what is wrong inside a function is told wherever the function stands.
func TestErrorsWithin(t *testing.T) {
	for _, c := range []struct {
		s    string
		want api.Errno
	}{
		{"return zz", api.ErrName}, {"return u", api.ErrName}, {"zz()", api.ErrName}, {"f()", api.ErrCount}, {"break", api.ErrLoop},
		{"local x, x", api.ErrTwice}, {"KEYS = 1", api.ErrTwice}, {"local function h(x, x) end", api.ErrTwice}, {"local " + locals(0, 250), api.ErrMany},
		{"local function h() if q then return q end end", api.ErrName}, {"while q do local x local function h() break end end", api.ErrLoop},
		{"local x while q do break end return f(x)", api.OK},
	} {
		for _, s := range nests("local function f(q) "+c.s+" end", 3) {
			out, l, e := scopes.Resolve(parsed(t, s))
			if e != c.want || e != api.OK && (l != nil || !syntax.Same(out, api.Node{})) {
				t.Errorf("%.120s: %v, want %v", s, e, c.want)
			}
		}
	}
	if _, _, e := scopes.Resolve(parsed(t, "local b do "+strings.Repeat("local function f() local c end ", 1000)+" end")); e != api.ErrMany {
		t.Error("1001 functions in a block:", e)
	}
}

func TestRest(t *testing.T) {
	for _, s := range strings.Fields("call try error type tostring tonumber len sub rep find byte char concat insert remove keys") {
		if !scopes.Builtin(s) || scopes.Builtin(s+"s") || scopes.Builtin(strings.ToUpper(s)) {
			t.Error(s)
		}
	}
	for _, s := range []string{"", "KEYS", "print", "f", "and"} {
		if scopes.Builtin(s) {
			t.Error(s)
		}
	}
	if scopes.Slots(nil) != 0 || scopes.Slots([]api.FuncInfo{{Slots: 3}, {Slots: 0}, {Slots: 250}}) != 253 {
		t.Error("Slots")
	}
	n := parsed(t, "local a, b = 1 return a")
	out, _, _ := scopes.Resolve(n)
	out.Kids[0].Names[0] = "x"
	out.Kids[1].Kids[0].Name = "x"
	if !syntax.Same(n, parsed(t, "local a, b = 1 return a")) {
		t.Error("the tree shares memory")
	}
}
