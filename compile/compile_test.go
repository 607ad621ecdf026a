package compile_test

import (
	"strconv"
	"strings"
	"testing"

	"tabor/api"
	"tabor/bridge"
	"tabor/code"
	"tabor/compile"
	"tabor/keys"
	"tabor/library"
	"tabor/meaning"
	"tabor/resp"
	"tabor/scopes"
	"tabor/syntax"
	"tabor/values"
)

// plain does programs that ask no commands, as the chapter of instructions says, and no more than that.
type plain struct {
	p     api.Program
	h     *values.Heap
	in    [2]api.Val
	steps int
	why   string
}

func (m *plain) fail(why string) bool {
	if why != "" && m.why == "" {
		m.why = why
	}
	return why != ""
}

func (m *plain) call(f int, operands []api.Val, depth int) api.Val {
	if depth > 100 {
		m.fail("depth")
		return api.Val{}
	}
	r := make([]api.Val, m.p.Protos[f].Regs)
	copy(r, operands)
	l := m.p.Protos[f].Code
	for at := 0; m.why == ""; {
		i := l[at]
		at++
		m.steps++
		switch i.Op {
		case api.OpNil:
			clear(r[i.A : i.B+1])
		case api.OpTrue, api.OpFalse:
			r[i.A] = values.Bool(i.Op == api.OpTrue)
		case api.OpInt:
			r[i.A] = values.Int(m.p.Ints[i.B])
		case api.OpText:
			r[i.A] = values.Text(m.p.Texts[i.B])
		case api.OpMove:
			r[i.A] = r[i.B]
		case api.OpKeys, api.OpArgs:
			r[i.A] = m.in[i.Op-api.OpKeys]
		case api.OpTable:
			v, why := m.h.Table()
			m.fail(why)
			r[i.A] = v
		case api.OpGet:
			v, why := m.h.Get(r[i.B], r[i.C])
			m.fail(why)
			r[i.A] = v
		case api.OpSet:
			m.fail(m.h.Set(r[i.A], r[i.B], r[i.C]))
		case api.OpNot:
			r[i.A] = values.Bool(!values.So(r[i.B]))
		case api.OpNeg:
			v, why := values.Neg(r[i.B])
			m.fail(why)
			r[i.A] = v
		case api.OpLen:
			n, why := m.h.Len(r[i.B])
			m.fail(why)
			r[i.A] = values.Int(n)
		case api.OpJump:
			at = i.A
		case api.OpUnless, api.OpIf:
			if values.So(r[i.A]) == (i.Op == api.OpIf) {
				at = i.B
			}
		case api.OpFor, api.OpNext:
			at = m.count(i, r, at)
		case api.OpCall:
			r[i.A] = m.call(i.B, r[i.A:i.A+m.p.Protos[i.B].Params], depth+1)
		case api.OpBuilt:
			if m.p.Texts[i.B] == "error" {
				m.fail("error")
				break
			}
			v, why, _ := library.Call(m.h, m.p.Texts[i.B], r[i.A:i.A+i.C]...)
			m.fail(why)
			r[i.A] = v
		case api.OpReturn:
			return r[i.A]
		case api.OpEnd:
			return api.Val{}
		default:
			v, why := m.h.Op(strings.Fields("+ - * / % .. == ~= < <= > >=")[i.Op-api.OpAdd], r[i.B], r[i.C])
			m.fail(why)
			r[i.A] = v
		}
	}
	return api.Val{}
}

func (m *plain) count(i api.Instr, r []api.Val, at int) int {
	for j := range 3 {
		if r[i.A+j].Kind != api.ValInt {
			m.fail("type")
			return at
		}
	}
	n, end, by := r[i.A].Int, r[i.A+1].Int, r[i.A+2].Int
	if i.Op == api.OpNext {
		v, why := m.h.Op("+", r[i.A], r[i.A+2])
		if why != "" {
			return at
		}
		n = v.Int
	} else if by == 0 {
		m.fail("zero")
		return at
	}
	if by > 0 && n > end || by <= 0 && n < end {
		if i.Op == api.OpFor {
			return i.B
		}
		return at
	}
	r[i.A], r[i.C] = values.Int(n), values.Int(n)
	if i.Op == api.OpFor {
		return at
	}
	return i.B
}

// fits holds a program against its script: may it be, has it the functions, the registers, the size that it must?
func fits(t *testing.T, s string, p api.Program) {
	t.Helper()
	n, _, _ := syntax.Parse(s)
	_, infos, _ := scopes.Resolve(n)
	if code.Check(p) != api.OK || len(p.Protos) != len(infos) {
		t.Fatalf("%.60s: no program that may be", s)
	}
	for i, f := range p.Protos {
		if f.Params != infos[i].Params || f.Regs > infos[i].Slots+250 {
			t.Errorf("%.60s: function %d: %d %d", s, i, f.Params, f.Regs)
		}
	}
	if nodes := syntax.Count(n); nodes <= 200 && code.Count(p) > 8*nodes+8*len(infos) {
		t.Errorf("%.60s: %d instructions of %d nodes", s, code.Count(p), nodes)
	}
}

func TestPrograms(t *testing.T) {
	for _, s := range []string{
		"", "return", "return 1 + 2", "while true do break end", "return {1, x = 'a', [2 + 1] = {}, nil, 5}", "return KEYS[1] .. #ARGV", "local a, b, c = 1, 2 return {a, b or 0, c or 0}", "local a = 1 local b = a a = b + a return {a, b}", "local a, b = 1, 2 a = b and a return a", "local a = 1 a = {a, a} return a[2]", "local a = 5 a = a or 1 a = nil or a return a", "local a = 1 a = a + (a and 2) return a", "local a = {} a = {a, {a}} return #a[2]",
		"local n = 0 for i = 1, 10 do n = n + i end return n", "local t = {} for i = 3, 1, -1 do t[#t + 1] = i end return t", "for i = 1, 3 do for j = i, 3 do if i * j == 6 then return {i, j} end end end", "local n = 0 for i = 1, 9 do if i == 4 then break end n = i end return n", "for i = 9223372036854775806, 9223372036854775807 do end", "local n = 0 for i = 1, 5, 2 do local x = i i = 0 n = n + x end return n", "for i = 1, 'a' do end", "for i = 1, 2, 0 do end", "for i = 2, 1 do error() end",
		"local i = 0 while i < 5 do i = i + 1 if i == 3 then break elseif i == 9 then i = 0 else local y = i end end return i", "if nil then return 1 elseif false then return 2 elseif 3 then return 3 else return 4 end", "if 1 then end return 2", "if nil then return 1 else return 2 end", "local x = 1 do local x = 2 x = 3 end return x", "for i = 1, 2 do local a if i == 2 then return a or 'none' end a = 5 end",
		"local function f(n) if n < 2 then return n end return f(n - 1) + f(n - 2) end return f(10)", "local function f() end return f() == nil", "local function f(a, b, c) local d = c return {a, b, d} end return f(1, 2, 3)", "local function f() return f() end return f()", "local function f(a) local function g(b) return b * 2 end return g(a) + 1 end return f(f(3))", "local a = 7 local function f(x) x = 2 return x end f(1) return a", "local function f(x) return x end return f(1) + f(2) * f(f(3))", "local a, b = 1, 2 len('x') return a * 10 + b", "local function f(x) return x + 1 end local a = f(1) a = f(a) return a", "local a, b = len('xyz'), tostring(5) return {a, b}", "local function f(x) return x end local a = 1 local t = {f(2), k = f(a), [f('z')] = f(4)} return {t[1], t.k, t.z, a}", "local function f(x) return x end if f(nil) then return 1 elseif f(2) then return f(3) end", "local function f(x) return x end local a = f(1) and f(2) or f(3) return a", "local a = 3 tostring(1) tostring(2) return a",
		"return 1 and nil or 'x'", "return nil and error() or false or 7", "return not (1 and nil)", "return -(-5) - -#'abc'", "return 'a' .. 'b' .. 1 .. 2", "return 1 < 2 and 2 <= 2 and 3 > 2 and 3 >= 3 and 1 ~= 2 and 1 == 1", "return 7 / 2 * 10 + 7 % 3", "return nil + 1", "local t = {} t.x.y = 1", "local t = {} t.a = {} t.a.b = 5 t['c'] = t.a.b + 1 return t.c", "return ({10, 20, 30})[2]", "return concat({1, 2, 3}, sub('abc', 2, 2))", "return rep('x', 3) .. char(65, 66) .. find('abc', 'c')", "return type({}) .. type(nil) .. tonumber('12')", "return len()", "error('x')", "local t = {1, 2, 3} remove(t, 1) insert(t, 9) return t", "return keys({b = 1, a = 2})", "local t = {} t[t] = 1", "return 9223372036854775807 + 1", "local KEYS = {5} return KEYS[1]", "local a, b = 'x' .. 'y' return {a, b == nil}", "return " + strings.Repeat("(", 90) + "1" + strings.Repeat(")", 90), "return 1" + strings.Repeat(" + 1", 95), "return 1" + strings.Repeat(" .. 1", 95), "return " + strings.Repeat("- ", 95) + "1", "local a = 1 while a < 300 do a = a + a end return a",
	} {
		p, at, e := compile.Text(s)
		if e != api.OK || at != 0 {
			t.Errorf("%.60s: %v at %d", s, e, at)
			continue
		}
		fits(t, s, p)
		n, _, _ := syntax.Parse(s)
		if again, e := compile.Tree(n); e != api.OK || !code.Same(p, again) {
			t.Error("Tree", s)
		}
		in := api.Running{Keys: []string{"k1", "k2"}, Args: []string{"x"}, Fuel: 100000, Cells: 10000, Depth: 100}
		want, _ := meaning.Text(keys.New(), s, in)
		m := &plain{p: p, h: values.New(10000)}
		for i, l := range [][]string{in.Keys, in.Args} {
			m.in[i], _ = m.h.Table()
			for j, s := range l {
				m.h.Set(m.in[i], values.Int(int64(j)+1), values.Text(s))
			}
		}
		v := m.call(0, nil, 1)
		r, why := bridge.Reply(m.h, v)
		m.fail(why)
		failed := want.Reply.Kind == api.ReplyError
		if failed != (m.why != "") || failed && want.Reply.Text != "ERR "+m.why && m.why != "error" || !failed && !resp.Same(r, want.Reply) || m.h.Spent() != want.Cells {
			t.Errorf("%.60s: %v %s, not %v", s, r, m.why, want.Reply)
		}
		if m.steps > 8*want.Fuel+8 {
			t.Errorf("%.60s: %d steps of %d fuel", s, m.steps, want.Fuel)
		}
	}
}

// operands writes n operands.
func operands(n int) string { return strings.TrimSuffix(strings.Repeat("1, ", n), ", ") }

func TestErrors(t *testing.T) {
	var locals []string
	for i := range 250 {
		locals = append(locals, "x"+strconv.Itoa(i))
	}
	all := strings.Join(locals, ", ")
	many := func(n int) string {
		var b strings.Builder
		for i := range n {
			b.WriteString("x = " + strconv.Itoa(i) + " ")
		}
		return "local x " + b.String()
	}
	long := strings.Repeat("x", api.MaxText+1)
	for i, c := range []struct {
		s    string
		at   int
		want api.Errno
	}{
		{"return +", 7, api.ErrSyntax}, {"a @", 2, api.ErrWord}, {long, 0, api.ErrLong}, {strings.Repeat("do ", 101) + strings.Repeat("end ", 101), 300, api.ErrDeep}, {"return a", 0, api.ErrName}, {"local function f() end f(1)", 0, api.ErrCount}, {"break", 0, api.ErrLoop}, {"local " + all + ", y", 0, api.ErrMany}, {"local b if nil then local function f() break end end", 0, api.ErrLoop}, {"local b for i = 1, 2 do local function f() return b end end", 0, api.ErrName}, {"local a, a", 0, api.ErrTwice},
		{"return char(" + operands(200) + ")", 0, api.OK}, {"char(" + operands(1000) + ")", 0, api.ErrRegs}, {"return char(" + operands(600) + ")", 0, api.ErrRegs}, {"local " + all + " return char(" + operands(200) + ")", 0, api.OK}, {"local " + all + " return char(" + operands(600) + ")", 0, api.ErrRegs},
		{many(20000), 0, api.OK}, {many(40000), 0, api.ErrLong}, {many(40000) + "char(" + operands(1000) + ")", 0, api.ErrRegs}, {many(40000) + "return y", 0, api.ErrName}, {"local function f(" + all + ") return x0 + x249 end return f(" + operands(250) + ")", 0, api.OK}, {"local t = {" + operands(5000) + "} return #t", 0, api.OK}, {"local t = {" + operands(40000) + "}", 0, api.ErrLong},
	} {
		p, at, e := compile.Text(c.s)
		if e != c.want || at != c.at || e != api.OK && !code.Same(p, api.Program{}) {
			t.Errorf("%d %.40s: %v at %d", i, c.s, e, at)
		}
		if e == api.OK {
			fits(t, c.s, p)
		}
		if n, _, f := syntax.Parse(c.s); f == api.OK {
			if q, f := compile.Tree(n); f != e || !code.Same(p, q) {
				t.Error(i, f)
			}
		}
	}
	for n := 240; n < 260; n++ { // there is a way to make it, or there is not: never more registers than may be
		for _, s := range []string{"return char(" + operands(n) + ")", "char(" + operands(n) + ")", "local a = 1 + char(" + operands(n) + ")", "local x x = {char(" + operands(n) + ")}"} {
			p, _, e := compile.Text(s)
			if e == api.OK {
				fits(t, s, p)
			} else if e != api.ErrRegs {
				t.Error(n, e)
			}
		}
	}
	for i, n := range []api.Node{{Kind: api.NodeInt}, {Kids: []api.Node{{Kind: 99}}}, {Kids: []api.Node{{Kind: api.NodeReturn, Kids: []api.Node{{Kind: api.NodeInt, Int: -1}}}}}} {
		if p, e := compile.Tree(n); e != api.ErrArg || !code.Same(p, api.Program{}) {
			t.Error(i, e)
		}
	}
	text := api.Node{Kids: []api.Node{{Kind: api.NodeReturn, Kids: []api.Node{{Kind: api.NodeText, Text: long}}}}}
	if p, e := compile.Tree(text); e != api.ErrLong || !code.Same(p, api.Program{}) {
		t.Error("a text that is too long", e)
	}
}

// TestSmall: trees of at most 200 nodes, as wide and as deep as such may be.
func TestSmall(t *testing.T) {
	rep := strings.Repeat
	for _, s := range []string{
		"return char(" + operands(195) + ")", "char(" + operands(195) + ")", "return {" + operands(97) + "}", "return {" + rep("{", 40) + "1" + rep("}", 40) + "}", "return " + rep("len(", 90) + "'x'" + rep(")", 90), "return 1 + (" + rep("1 + (", 90) + "1" + rep(")", 91), rep("for i = 1, 2 do ", 40) + rep("end ", 40), rep("while 1 do ", 48) + rep("end ", 48), rep("local function f() ", 48) + rep("end ", 48), "return " + rep("{[", 45) + "1" + rep("] = 2}", 45), rep("return 1", 1), rep("local a = 1 ", 90), rep("do ", 48) + rep("end ", 48), "if 1 then " + rep("elseif 1 then ", 60) + "end", rep("local function f(a, b) end ", 60), rep("local t = {} ", 1) + rep("t[1] = 2 ", 38), "return " + rep("char(1, 2, char(3, ", 30) + "4" + rep("))", 30),
	} {
		n, _, e := syntax.Parse(s)
		if e != api.OK || syntax.Count(n) > 200 {
			t.Fatalf("%.40s: %v %d", s, e, syntax.Count(n))
		}
		p, at, e := compile.Text(s)
		if e != api.OK || at != 0 {
			t.Errorf("%.40s: %v", s, e)
			continue
		}
		fits(t, s, p)
	}
}
