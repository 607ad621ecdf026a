package machine_test

import (
	"math"
	"slices"
	"strconv"
	"strings"
	"testing"

	"tabor/api"
	"tabor/code"
	"tabor/compile"
	"tabor/keys"
	"tabor/machine"
	"tabor/meaning"
	"tabor/resp"
)

// told writes a reply in short.
func told(r api.Reply) string {
	switch r.Kind {
	case api.ReplyNone:
		return "nil"
	case api.ReplyStatus:
		return "+" + r.Text
	case api.ReplyError:
		return "-" + r.Text
	case api.ReplyInt:
		return strconv.FormatInt(r.Int, 10)
	case api.ReplyText:
		return "'" + r.Text + "'"
	}
	var l []string
	for _, x := range r.List {
		l = append(l, told(x))
	}
	return "[" + strings.Join(l, " ") + "]"
}

func plenty() api.Running {
	return api.Running{Keys: []string{"k1", "k2"}, Args: []string{"x", "7", ""}, Now: 5, Fuel: 1 << 20, Cells: 100000, Depth: 100}
}

func in(op api.Op, l ...int) api.Instr {
	l = append(l, 0, 0, 0)
	return api.Instr{Op: op, A: l[0], B: l[1], C: l[2]}
}

func program(regs int, l ...api.Instr) api.Program {
	return api.Program{Protos: []api.Proto{{Regs: regs, Code: l}}, Ints: []int64{0, 1, 2, 3, -1, math.MaxInt64, math.MinInt64}, Texts: []string{"a", "b", "call", "try", "error", "len", "SET", "concat", "x\ny"}}
}

// ran does a program, and holds its effects against its keyspace.
func ran(t *testing.T, k *keys.Keys, p api.Program, r api.Running) api.Ran {
	t.Helper()
	was := k.Copy()
	out, e := machine.Run(k, p, r)
	if e != api.OK {
		t.Fatal(e, code.Check(p))
	}
	if n, e := was.Apply(out.Effects...); n != len(out.Effects) || e != api.OK || !was.Same(k) {
		t.Fatal("effects", e)
	}
	return out
}

func TestOps(t *testing.T) {
	i0, i1, i2, i3 := in(api.OpInt, 0, 0), in(api.OpInt, 1, 1), in(api.OpInt, 2, 2), in(api.OpInt, 3, 3)
	ret := func(a int) api.Instr { return in(api.OpReturn, a) }
	for i, c := range []struct {
		l     []api.Instr
		want  string
		steps int
	}{
		{[]api.Instr{in(api.OpEnd)}, "nil", 1}, {[]api.Instr{ret(0)}, "nil", 1}, {[]api.Instr{i1, ret(1)}, "1", 2}, {[]api.Instr{i1, i2, i3, in(api.OpNil, 1, 2), ret(1)}, "nil", 5}, {[]api.Instr{i1, i2, i3, in(api.OpNil, 1, 2), ret(3)}, "3", 5}, {[]api.Instr{i1, in(api.OpNil, 0, 0), ret(1)}, "1", 3}, {[]api.Instr{in(api.OpTrue, 0), ret(0)}, "1", 2}, {[]api.Instr{in(api.OpFalse, 0), ret(0)}, "nil", 2}, {[]api.Instr{in(api.OpText, 0, 1), ret(0)}, "'b'", 2}, {[]api.Instr{i3, in(api.OpMove, 0, 3), ret(0)}, "3", 3},
		{[]api.Instr{in(api.OpKeys, 2), ret(2)}, "['k1' 'k2']", 2}, {[]api.Instr{in(api.OpArgs, 2), ret(2)}, "['x' '7' '']", 2}, {[]api.Instr{in(api.OpTable, 0), ret(0)}, "[]", 2}, {[]api.Instr{in(api.OpTable, 0), i1, i2, in(api.OpSet, 0, 1, 2), ret(0)}, "[2]", 5}, {[]api.Instr{in(api.OpKeys, 0), i2, in(api.OpGet, 3, 0, 2), ret(3)}, "'k2'", 4}, {[]api.Instr{in(api.OpKeys, 0), i2, in(api.OpGet, 0, 0, 2), ret(0)}, "'k2'", 4}, {[]api.Instr{in(api.OpGet, 0, 0, 0), ret(0)}, "-ERR type", 1}, {[]api.Instr{in(api.OpSet, 0, 0, 0), ret(0)}, "-ERR type", 1},
		{[]api.Instr{i2, i3, in(api.OpAdd, 0, 2, 3), ret(0)}, "5", 4}, {[]api.Instr{i2, i3, in(api.OpSub, 0, 2, 3), ret(0)}, "-1", 4}, {[]api.Instr{i2, i3, in(api.OpMul, 0, 2, 3), ret(0)}, "6", 4}, {[]api.Instr{i2, i3, in(api.OpDiv, 0, 3, 2), ret(0)}, "1", 4}, {[]api.Instr{i2, i3, in(api.OpMod, 2, 3, 2), ret(2)}, "1", 4}, {[]api.Instr{i2, i3, in(api.OpCat, 0, 2, 3), ret(0)}, "'23'", 4}, {[]api.Instr{i2, i3, in(api.OpEq, 0, 2, 3), ret(0)}, "nil", 4}, {[]api.Instr{i2, i3, in(api.OpNe, 0, 2, 3), ret(0)}, "1", 4}, {[]api.Instr{i2, i3, in(api.OpLt, 0, 2, 3), ret(0)}, "1", 4}, {[]api.Instr{i2, i3, in(api.OpLe, 0, 3, 2), ret(0)}, "nil", 4}, {[]api.Instr{i2, i3, in(api.OpLe, 0, 2, 2), ret(0)}, "1", 4}, {[]api.Instr{i2, i3, in(api.OpGt, 0, 2, 3), ret(0)}, "nil", 4}, {[]api.Instr{i2, i3, in(api.OpGe, 0, 3, 2), ret(0)}, "1", 4}, {[]api.Instr{i0, i1, in(api.OpDiv, 0, 1, 0), ret(0)}, "-ERR zero", 3},
		{[]api.Instr{i0, in(api.OpNot, 1, 0), ret(1)}, "nil", 3}, {[]api.Instr{in(api.OpNot, 1, 0), ret(1)}, "1", 2}, {[]api.Instr{i3, in(api.OpNeg, 3, 3), ret(3)}, "-3", 3}, {[]api.Instr{in(api.OpNeg, 3, 3), ret(3)}, "-ERR type", 1}, {[]api.Instr{in(api.OpInt, 0, 6), in(api.OpNeg, 0, 0), ret(0)}, "-ERR over", 2}, {[]api.Instr{in(api.OpArgs, 0), in(api.OpLen, 0, 0), ret(0)}, "3", 3}, {[]api.Instr{in(api.OpLen, 0, 0), ret(0)}, "-ERR type", 1},
		{[]api.Instr{in(api.OpJump, 2), i1, ret(1)}, "nil", 2}, {[]api.Instr{in(api.OpUnless, 0, 2), i1, ret(1)}, "nil", 2}, {[]api.Instr{i0, in(api.OpUnless, 0, 3), i1, ret(1)}, "1", 4}, {[]api.Instr{in(api.OpIf, 0, 2), i1, ret(1)}, "1", 3}, {[]api.Instr{i0, in(api.OpIf, 0, 3), i1, ret(1)}, "nil", 3}, {[]api.Instr{i3, in(api.OpUnless, 3, 4), in(api.OpNil, 3, 3), in(api.OpJump, 1), i2, ret(2)}, "2", 7},
		{[]api.Instr{i1, i2, i3, in(api.OpFor, 1, 5, 0), ret(0), ret(3)}, "1", 5}, {[]api.Instr{i1, i2, i3, in(api.OpInt, 1, 3), in(api.OpFor, 1, 6, 0), ret(0), ret(2)}, "2", 6}, {[]api.Instr{in(api.OpFor, 0, 1, 3), in(api.OpEnd)}, "-ERR type", 1}, {[]api.Instr{i0, i1, i2, in(api.OpInt, 2, 0), in(api.OpFor, 0, 5, 3), in(api.OpEnd)}, "-ERR zero", 5}, {[]api.Instr{i1, i2, in(api.OpInt, 3, 4), in(api.OpFor, 1, 5, 0), ret(0), ret(2)}, "2", 5},
		{[]api.Instr{i1, in(api.OpInt, 2, 3), in(api.OpInt, 3, 1), in(api.OpAdd, 4, 4, 1), ret(4)}, "-ERR type", 4}, {[]api.Instr{i1, in(api.OpInt, 2, 3), in(api.OpInt, 3, 1), in(api.OpInt, 4, 0), in(api.OpAdd, 4, 4, 1), in(api.OpNext, 1, 4, 0), ret(4)}, "6", 11}, {[]api.Instr{in(api.OpNext, 0, 0, 3), ret(3)}, "-ERR type", 1}, {[]api.Instr{i1, i2, i3, in(api.OpNext, 1, 5, 0), ret(2), ret(0)}, "2", 5}, {[]api.Instr{i1, in(api.OpInt, 2, 5), in(api.OpInt, 3, 5), in(api.OpNext, 1, 5, 0), ret(1), ret(0)}, "1", 5}, {[]api.Instr{i1, in(api.OpInt, 2, 1), in(api.OpInt, 3, 0), in(api.OpNext, 1, 5, 0), ret(2), ret(0)}, "1", 5}, {[]api.Instr{i1, in(api.OpInt, 2, 2), in(api.OpInt, 3, 0), in(api.OpNext, 1, 5, 0), ret(2), ret(0)}, "2", 5},
		{[]api.Instr{i1, in(api.OpInt, 2, 0), in(api.OpInt, 3, 0), in(api.OpNext, 1, 5, 0), ret(2), ret(0)}, "1", 5}, {[]api.Instr{i0, in(api.OpInt, 1, 5), in(api.OpInt, 2, 5), in(api.OpNext, 0, 5, 3), ret(1), ret(3)}, "9223372036854775807", 5}, {[]api.Instr{i1, in(api.OpInt, 2, 5), in(api.OpInt, 3, 5), in(api.OpNext, 1, 5, 0), ret(3), ret(0)}, "9223372036854775807", 5},
		{[]api.Instr{in(api.OpText, 0, 0), in(api.OpBuilt, 0, 5, 1), ret(0)}, "1", 3}, {[]api.Instr{in(api.OpBuilt, 0, 5, 0), ret(0)}, "-ERR args", 1}, {[]api.Instr{in(api.OpArgs, 0), in(api.OpText, 1, 0), in(api.OpBuilt, 0, 7, 2), ret(0)}, "'xa7a'", 4}, {[]api.Instr{in(api.OpText, 0, 0), in(api.OpBuilt, 0, 4, 1), ret(0)}, "-a", 2}, {[]api.Instr{in(api.OpBuilt, 0, 4, 0), ret(0)}, "-ERR error", 1}, {[]api.Instr{in(api.OpTrue, 0), in(api.OpBuilt, 0, 4, 1), ret(0)}, "-ERR error", 2}, {[]api.Instr{in(api.OpBuilt, 0, 2, 0), ret(0)}, "-ERR args", 1}, {[]api.Instr{in(api.OpBuilt, 0, 3, 0), ret(0)}, "-ERR args", 1}, {[]api.Instr{in(api.OpBuilt, 0, 2, 1), ret(0)}, "-ERR type", 1}, {[]api.Instr{in(api.OpText, 0, 0), in(api.OpBuilt, 0, 2, 1), ret(0)}, "-ERR unknown", 2}, {[]api.Instr{in(api.OpText, 0, 0), in(api.OpBuilt, 0, 3, 1), ret(0)}, "-ERR unknown", 3}, {[]api.Instr{in(api.OpText, 0, 6), in(api.OpText, 1, 0), i2, in(api.OpBuilt, 0, 2, 3), ret(0)}, "+OK", 5},
		{[]api.Instr{in(api.OpTable, 0), i1, in(api.OpSet, 0, 1, 0), ret(0)}, "-ERR reply", 4}, {[]api.Instr{in(api.OpText, 0, 8), in(api.OpBuilt, 0, 4, 1), ret(0)}, "-x\ny", 2},
	} {
		r := ran(t, keys.New(), program(5, c.l...), plenty())
		if told(r.Reply) != c.want || r.Fuel != c.steps {
			t.Errorf("%d: %s in %d", i, told(r.Reply), r.Fuel)
		}
		less := plenty()
		less.Fuel = c.steps
		if again := ran(t, keys.New(), program(5, c.l...), less); told(again.Reply) != c.want || again.Fuel != c.steps {
			t.Error("with just the steps", i)
		}
		less.Fuel--
		if again := ran(t, keys.New(), program(5, c.l...), less); told(again.Reply) != "-ERR fuel" || again.Fuel != less.Fuel {
			t.Error("with one step less", i)
		}
	}
}

func TestCall(t *testing.T) {
	p := program(4, in(api.OpInt, 1, 2), in(api.OpInt, 2, 3), in(api.OpInt, 3, 1), in(api.OpCall, 1, 1), in(api.OpCat, 1, 1, 3), in(api.OpReturn, 1))
	p.Protos = append(p.Protos, api.Proto{Params: 2, Regs: 3, Code: []api.Instr{in(api.OpUnless, 2, 2), in(api.OpReturn, 2), in(api.OpSub, 2, 0, 1), in(api.OpReturn, 2)}})
	if r := ran(t, keys.New(), p, plenty()); told(r.Reply) != "'-11'" || r.Fuel != 9 {
		t.Error(told(r.Reply), r.Fuel)
	}
	p.Protos[1].Code = []api.Instr{in(api.OpEnd)}
	if r := ran(t, keys.New(), p, plenty()); told(r.Reply) != "-ERR type" || r.Fuel != 6 {
		t.Error(told(r.Reply), r.Fuel)
	}
	for depth, want := range map[int]string{2: "-ERR type", 1: "-ERR depth", 0: "-ERR depth", -7: "-ERR depth"} {
		r := plenty()
		r.Depth = depth
		if got := ran(t, keys.New(), p, r); told(got.Reply) != want || depth < 1 && got.Fuel != 0 {
			t.Error(depth, told(got.Reply))
		}
	}
}

func TestErrors(t *testing.T) {
	good, bad := program(1, in(api.OpEnd)), program(0, in(api.OpReturn))
	long := strings.Repeat("x", api.MaxText+1)
	few := plenty()
	many := api.Running{Keys: make([]string, api.MaxItems), Args: []string{""}, Fuel: 100, Cells: 1 << 20, Depth: 5}
	most := many
	most.Args = nil
	for i, c := range []struct {
		k    *keys.Keys
		p    api.Program
		in   api.Running
		want api.Errno
	}{
		{nil, bad, many, api.ErrNil}, {&keys.Keys{}, good, few, api.ErrNil}, {keys.New(), bad, few, api.ErrArg}, {keys.New(), api.Program{}, few, api.ErrArg}, {keys.New(), good, many, api.ErrArg}, {keys.New(), good, api.Running{Keys: []string{long}}, api.ErrArg}, {keys.New(), good, api.Running{Args: []string{"", long}}, api.ErrArg}, {keys.New(), good, most, api.OK}, {keys.New(), good, api.Running{Keys: []string{long[1:]}, Args: []string{long[1:]}, Fuel: 9, Cells: 9, Depth: 1}, api.OK},
	} {
		r, e := machine.Run(c.k, c.p, c.in)
		if e != c.want || e != api.OK && (r.Fuel != 0 || r.Cells != 0 || r.Effects != nil || !resp.Same(r.Reply, api.Reply{})) {
			t.Error(i, e)
		}
	}
	for s, want := range map[string]api.Errno{"return +": api.ErrSyntax, "@": api.ErrWord, long: api.ErrLong, "return a": api.ErrName, "break": api.ErrLoop, "char(" + strings.Repeat("1, ", 900) + "1)": api.ErrRegs, "return 1": api.ErrArg} {
		if r, e := machine.Text(keys.New(), s, many); e != want || r.Effects != nil || r.Fuel != 0 {
			t.Errorf("%.40s: %v", s, e)
		}
		if _, e := machine.Text(nil, s, few); e != api.ErrNil {
			t.Errorf("%.40s: %v", s, e)
		}
	}
}

func TestBounds(t *testing.T) {
	r := plenty()
	r.Fuel = math.MinInt
	p, _, _ := compile.Text("while true do end")
	if out := ran(t, keys.New(), p, r); told(out.Reply) != "-ERR fuel" || out.Fuel != 0 {
		t.Error(told(out.Reply))
	}
	r.Fuel, r.Cells = 5, -1
	if out := ran(t, keys.New(), p, r); told(out.Reply) != "-ERR memory" || out.Cells != 0 || out.Fuel != 0 {
		t.Error(told(out.Reply))
	}
	r.Fuel, r.Cells = math.MaxInt, math.MaxInt
	if out := ran(t, keys.New(), p, r); told(out.Reply) != "-ERR fuel" || out.Fuel != api.MaxFuel {
		t.Error(told(out.Reply), out.Fuel)
	}
	p, _, _ = compile.Text("while true do local t = {} end")
	if out := ran(t, keys.New(), p, r); told(out.Reply) != "-ERR memory" || out.Cells != api.MaxCells {
		t.Error(told(out.Reply), out.Cells)
	}
	r.Depth = math.MaxInt
	p, _, _ = compile.Text("local n = 0 local function f(n) call('SET', 'n', n) return f(n + 1) end f(1)")
	k := keys.New()
	if out := ran(t, k, p, r); told(out.Reply) != "-ERR depth" || len(out.Effects) != api.MaxCalls-1 {
		t.Error(told(out.Reply), len(out.Effects))
	}
}

// alike holds a script's run by its instructions against that by its tree, and tells the latter's reply.
func alike(t *testing.T, k *keys.Keys, s string, r api.Running) string {
	t.Helper()
	other := k.Copy()
	want, e := meaning.Text(other, s, r)
	was := k.Copy()
	got, f := machine.Text(k, s, r)
	if e != f {
		t.Fatalf("%s: %v %v", s, e, f)
	}
	if n, e := was.Apply(got.Effects...); n != len(got.Effects) || e != api.OK || !was.Same(k) {
		t.Fatalf("%s: effects %v", s, e)
	}
	fuel := api.Reply{Kind: api.ReplyError, Text: "ERR fuel"}
	if !resp.Same(want.Reply, fuel) && got.Fuel > 8*want.Fuel+8 {
		t.Fatalf("%s: %d steps of %d fuel", s, got.Fuel, want.Fuel)
	}
	if resp.Same(want.Reply, fuel) || resp.Same(got.Reply, fuel) {
		n := min(len(got.Effects), len(want.Effects))
		if !slices.Equal(got.Effects[:n], want.Effects[:n]) {
			t.Fatalf("%s: not the first effects", s)
		}
		return told(want.Reply)
	}
	if !resp.Same(got.Reply, want.Reply) || !slices.Equal(got.Effects, want.Effects) || got.Cells != want.Cells || !k.Same(other) {
		t.Fatalf("%s: %s %d, not %s %d", s, told(got.Reply), got.Cells, told(want.Reply), want.Cells)
	}
	return told(want.Reply)
}

func TestScripts(t *testing.T) {
	for s, want := range map[string]string{
		"local function f(n) if n < 2 then return n end return f(n - 1) + f(n - 2) end return f(10)": "55", "local function f() return f() end return f()": "-ERR depth", "return KEYS[1] .. #ARGV": "'k13'", "local n = 0 for i = 1, 3 do n = n + i end return n": "6", "call('SET', 'a', 1) return call('INCR', 'a')": "2", "return 1 / 0": "-ERR zero", "return {} + 1": "-ERR type", "return try('GET').err": "'ERR args'",
		"call('RPUSH', 'l', 'a', 'b') local t = call('LRANGE', 'l', 0, -1) return concat(t, '-')": "'a-b'", "call('SET', 'a', 1) error('no')": "-no", "return {1, {2, 'x'}, false}": "[1 [2 'x'] nil]", "local a = 1 local t = {a, a = a} a = t return a.a + a[1]": "2", "return call('TYPE', 'x').ok": "'none'", "local a, b = 5 len('x') tostring(3) return {a, b or 'none'}": "[5 'none']", "local x = 3 x = x and x + 1 or x return x": "4",
		"local n = 0 for i = 9223372036854775806, 9223372036854775807 do n = n + 1 end return n": "2", "local n = 0 for i = -9223372036854775807, -9223372036854775807 - 1, -1 do n = n + 1 end return n": "2", "local n = 0 for i = 1, 9223372036854775807, 9223372036854775806 do n = n + i % 10 end return n": "8", "for i = 1, 2, 0 do end": "-ERR zero", "for i = 1, 2, 'x' do end": "-ERR type",
		"while true do local x = call('INCR', 'n') if x > 4 then return x end end": "5", "for i = 1, 3 do for j = 1, 3 do if j == 2 then break end call('RPUSH', 'l', i * 10 + j) end end return call('LRANGE', 'l', 0, -1)": "['11' '21' '31']",
	} {
		if got := alike(t, keys.New(), s, plenty()); got != want {
			t.Errorf("%s: %s", s, got)
		}
	}
	k := keys.New()
	r := plenty()
	r.Fuel = 500
	if out, _ := machine.Text(k, "call('RPUSH', KEYS[1], 1) while true do end", r); told(out.Reply) != "-ERR fuel" || len(out.Effects) != 1 || out.Fuel != 500 {
		t.Error(told(out.Reply))
	}
	if x, ok := k.Look("k1"); !ok || len(x.List) != 1 {
		t.Error("the effect does not stay")
	}
	whole, _ := machine.Text(keys.New(), "for i = 1, 9 do call('RPUSH', 'l', i) end", plenty())
	for fuel := range whole.Fuel {
		r.Fuel = fuel
		out, _ := machine.Text(keys.New(), "for i = 1, 9 do call('RPUSH', 'l', i) end", r)
		if told(out.Reply) != "-ERR fuel" || !slices.Equal(out.Effects, whole.Effects[:len(out.Effects)]) {
			t.Error(fuel, told(out.Reply))
		}
	}
	for cells := range 40 {
		r := plenty()
		r.Cells = cells
		alike(t, keys.New(), "call('SET', 'a', 1) local t = {} for i = 1, 5 do t[i] = 'x' .. i end return t", r)
	}
	for depth := range 9 {
		r := plenty()
		r.Depth = depth
		alike(t, keys.New(), "local function f(n) call('INCR', 'd') if n > 0 then f(n - 1) end end f(5)", r)
	}
}

// dice makes scripts.
type dice struct {
	x      uint32
	locals int // how many locals there are, named v0, v1, ..
	loops  int
	inner  bool // in a function
}

func (d *dice) next(n int) int {
	d.x = d.x*1664525 + 1013904223
	return int(d.x>>8) % n
}

func (d *dice) pick(l ...string) string { return l[d.next(len(l))] }

func (d *dice) value(depth int) string {
	if depth == 0 || d.next(4) == 0 {
		if d.locals > 0 && d.next(3) > 0 {
			return "v" + strconv.Itoa(d.next(d.locals))
		}
		return d.pick("1", "2", "3", "'a'", "'7'", "nil", "true", "false", "KEYS", "ARGV[2]", "0", "10", "5", "{}")
	}
	v := func() string { return d.value(depth - 1) }
	switch d.next(12) {
	case 0, 1, 2, 3:
		return "(" + v() + d.pick(" + ", " - ", " * ", " / ", " % ", " .. ", " < ", " >= ", " + ", " .. ") + v() + ")"
	case 4:
		return "(" + v() + d.pick(" == ", " ~= ", " and ", " or ") + v() + ")"
	case 5:
		return d.pick("not ", "- ", "#") + v()
	case 6:
		return "{" + v() + ", k = " + v() + ", [" + v() + "] = " + v() + "}"
	case 7:
		return "({" + v() + ", " + v() + "})[" + d.pick("1", "2", v()) + "]"
	case 8:
		if !d.inner {
			return "f(" + v() + ", " + v() + ")"
		}
		return "type(" + v() + ")"
	case 9:
		return d.pick("call", "try") + "('INCR', '" + d.pick("a", "b") + "')"
	case 10:
		return "try('" + d.pick("GET', ", "SET', 'c', ", "RPUSH', 'l', ", "APPEND', 'b', ", "LPOP', ") + v() + ")"
	}
	return d.pick("tostring", "type", "tonumber", "len", "keys") + "(" + v() + ")"
}

func (d *dice) block(depth int) string {
	locals := d.locals
	var out []string
	for range 1 + d.next(4) {
		out = append(out, d.statement(depth))
	}
	if d.next(6) == 0 {
		out = append(out, "return "+d.value(2))
	} else if d.loops > 0 && d.next(4) == 0 {
		out = append(out, "break")
	}
	d.locals = locals
	return strings.Join(out, " ")
}

func (d *dice) loop(head string, depth int) string {
	d.loops++
	s := head + " do " + d.block(depth) + " end"
	d.loops--
	return s
}

func (d *dice) statement(depth int) string {
	n := d.next(12)
	if depth == 0 {
		n %= 6
	}
	switch n {
	case 0, 1:
		s := "local v" + strconv.Itoa(d.locals) + " = " + d.value(3)
		d.locals++
		return s
	case 2, 3:
		if d.locals > 0 {
			return "v" + strconv.Itoa(d.next(d.locals)) + " = " + d.value(3)
		}
		return "tostring(" + d.value(2) + ")"
	case 4:
		return d.pick("call", "try") + "('" + d.pick("INCR', 'a'", "RPUSH', 'l', 'x'", "SADD', 's', "+d.value(1), "DEL', 'b'", "SET', 'a', 1") + ")"
	case 5:
		if d.locals > 0 {
			return "v" + strconv.Itoa(d.next(d.locals)) + "[" + d.value(1) + "] = " + d.value(2)
		}
		return "len('x')"
	case 6, 7:
		return "if " + d.value(2) + " then " + d.block(depth-1) + d.pick("", " else "+d.block(depth-1), " elseif "+d.value(2)+" then "+d.block(depth-1)) + " end"
	case 8:
		return "do " + d.block(depth-1) + " end"
	case 9:
		return d.loop("while "+d.value(2), depth-1)
	}
	d.locals++
	s := d.loop("for v"+strconv.Itoa(d.locals-1)+" = "+d.pick("1", "2", "-1")+", "+d.pick("3", "5", "0")+d.pick("", ", 2", ", -1"), depth-1)
	d.locals--
	return s
}

func (d *dice) script() string {
	d.locals, d.loops, d.inner = 2, 0, true
	f := "local function f(v0, v1) " + d.block(2) + " end "
	d.locals, d.inner = 0, false
	return f + d.block(3) + " "
}

func TestAlike(t *testing.T) {
	d := &dice{x: 7}
	errors := 0
	for range 2500 {
		k := keys.New()
		k.Apply(api.Effect{Op: api.EffText, Key: "a", Text: "3"}, api.Effect{Op: api.EffText, Key: "b", Text: "4"})
		r := plenty()
		r.Fuel = 4000
		if d.next(3) == 0 {
			r.Cells, r.Depth = 5+d.next(40), 1+d.next(6)
		}
		if s := alike(t, k, d.script(), r); strings.HasPrefix(s, "-") {
			errors++
		}
	}
	if errors > 2250 {
		t.Error("too many scripts end by an error:", errors)
	}
}
