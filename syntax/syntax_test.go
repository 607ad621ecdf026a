package syntax_test

import (
	"slices"
	"strconv"
	"strings"
	"testing"

	"tabor/api"
	"tabor/syntax"
)

func kind(k api.NodeKind, kids ...api.Node) api.Node { return api.Node{Kind: k, Kids: kids} }
func num(n int64) api.Node                           { return api.Node{Kind: api.NodeInt, Int: n} }
func text(s string) api.Node                         { return api.Node{Kind: api.NodeText, Text: s} }
func name(s string) api.Node                         { return api.Node{Kind: api.NodeName, Name: s} }
func call(s string, kids ...api.Node) api.Node {
	return api.Node{Kind: api.NodeCall, Name: s, Kids: kids}
}
func bin(op string, a, b api.Node) api.Node {
	return api.Node{Kind: api.NodeBin, Name: op, Kids: []api.Node{a, b}}
}
func index(a, b api.Node) api.Node    { return kind(api.NodeIndex, a, b) }
func block(kids ...api.Node) api.Node { return kind(api.NodeBlock, kids...) }
func ret(kids ...api.Node) api.Node   { return kind(api.NodeReturn, kids...) }
func script(n api.Node) api.Node      { return block(ret(n)) }
func assign(a, b api.Node) api.Node   { return kind(api.NodeAssign, a, b) }
func item(n api.Node) api.Node        { return kind(api.NodeItem, n) }
func local(names string, kids ...api.Node) api.Node {
	return api.Node{Kind: api.NodeLocal, Names: strings.Fields(names), Kids: kids}
}

func TestTold(t *testing.T) {
	for s, want := range map[string]string{
		"": "", "-- nothing": "",
		"local a, b = 1 return a+b*2": "local a , b = 1 ; return a + ( b * 2 ) ;", "x.y = {1, k = 2}": "x [ 'y' ] = { 1 , [ 'k' ] = 2 } ;", "return": "return ;", "return;": "return ;", "local a": "local a ;", "local a;local b;": "local a ; local b ;", "local a, b = 1, 2": "local a , b = 1 , 2 ;",
		"f()": "f ( ) ;", "f(1, 'x')": "f ( 1 , 'x' ) ;", "f() g()": "f ( ) ; g ( ) ;", "a = 1 b = 2": "a = 1 ; b = 2 ;", "a.b.c[1].d = 2": "a [ 'b' ] [ 'c' ] [ 1 ] [ 'd' ] = 2 ;", "f().x = 1": "f ( ) [ 'x' ] = 1 ;", "(a)[1] = 2": "a [ 1 ] = 2 ;", "({1})[1] = 2": "( { 1 } ) [ 1 ] = 2 ;", "('x').y = 1": "( 'x' ) [ 'y' ] = 1 ;",
		"do end": "do end ;", "do local a do a = 1 end end": "do local a ; do a = 1 ; end ; end ;", "if a then end": "if a then end ;", "if a then f() elseif b then g() elseif c then else return end": "if a then f ( ) ; elseif b then g ( ) ; elseif c then else return ; end ;", "if a then else end": "if a then else end ;",
		"while true do break end": "while true do break ; end ;", "while a do break; end": "while a do break ; end ;", "for i = 1, 2 do end": "for i = 1 , 2 do end ;", "for i = 1, 2, -1 do f(i) end": "for i = 1 , 2 , - 1 do f ( i ) ; end ;", "local function f() end": "local function f ( ) end ;", "local function f(a, b) return a end": "local function f ( a , b ) return a ; end ;",
		"return nil": "return nil ;", "return true, false"[:11]: "return true ;", "return false": "return false ;", "return 007": "return 7 ;", "return 'a\\n'": "return 'a\\n' ;", "return {}": "return { } ;", "return {1;2,}": "return { 1 , 2 } ;", "return {[1]=2, a=3; 4}": "return { [ 1 ] = 2 , [ 'a' ] = 3 , 4 } ;", "return {a}": "return { a } ;", "return {a == 1}": "return { a == 1 } ;", "return {f(), {}}": "return { f ( ) , { } } ;",
		"return a or b and c": "return a or ( b and c ) ;", "return a and b or c": "return ( a and b ) or c ;", "return a or b or c": "return ( a or b ) or c ;", "return a == b and c ~= d": "return ( a == b ) and ( c ~= d ) ;", "return a < b == c": "return ( a < b ) == c ;", "return a .. b < c": "return ( a .. b ) < c ;", "return a .. b .. c": "return a .. ( b .. c ) ;", "return a .. b + c": "return a .. ( b + c ) ;", "return a - b - c + d": "return ( ( a - b ) - c ) + d ;",
		"return a * b / c % d": "return ( ( a * b ) / c ) % d ;", "return a + b * c": "return a + ( b * c ) ;", "return (a + b) * c": "return ( a + b ) * c ;", "return -a * b": "return ( - a ) * b ;", "return not a == b": "return ( not a ) == b ;", "return - - a": "return - ( - a ) ;", "return not not a": "return not ( not a ) ;", "return -#a.b": "return - ( # a [ 'b' ] ) ;", "return a >= b": "return a >= b ;", "return a > b <= c": "return ( a > b ) <= c ;",
		"return ((a))": "return a ;", "return (f())": "return f ( ) ;", "return (a + b).c": "return ( a + b ) [ 'c' ] ;", "return (a.b).c": "return a [ 'b' ] [ 'c' ] ;", "return (nil)[1]": "return ( nil ) [ 1 ] ;", "return a[b + 1]": "return a [ b + 1 ] ;", "return a[b[c]]": "return a [ b [ c ] ] ;", "return f(g(1), h())": "return f ( g ( 1 ) , h ( ) ) ;", "(a) = 1": "a = 1 ;", "return #'x' .. 1": "return ( # 'x' ) .. 1 ;", "return (-1)": "return - 1 ;", "x = - 1": "x = - 1 ;",
	} {
		n, at, e := syntax.Parse(s)
		if e != api.OK || at != 0 {
			t.Errorf("%s: %d %v", s, at, e)
			continue
		}
		if got, e := syntax.Print(n); got != want || e != api.OK {
			t.Errorf("%s: %s %v", s, got, e)
		}
		again, at, e := syntax.Parse(want)
		if e != api.OK || at != 0 || !syntax.Same(n, again) || syntax.Check(n) != api.OK {
			t.Errorf("%s: told and parsed %v", s, e)
		}
	}
}

func TestTrees(t *testing.T) {
	for s, want := range map[string]api.Node{
		"":                 block(),
		"local a, b = 1":   block(local("a b", num(1))),
		"x.y = {1, k = 2}": block(assign(index(name("x"), text("y")), kind(api.NodeTable, item(num(1)), kind(api.NodePair, text("k"), num(2))))),
		"if a then b() elseif c then else return 1 end": block(kind(api.NodeIf, name("a"), block(call("b")), name("c"), block(), block(ret(num(1))))),
		"while not a do break end":                      block(kind(api.NodeWhile, kind(api.NodeNot, name("a")), block(kind(api.NodeBreak)))),
		"for i = 1, #a, -2 do end":                      block(api.Node{Kind: api.NodeFor, Names: []string{"i"}, Kids: []api.Node{num(1), kind(api.NodeLen, name("a")), kind(api.NodeNeg, num(2)), block()}}),
		"for i = 1, 2 do end":                           block(api.Node{Kind: api.NodeFor, Names: []string{"i"}, Kids: []api.Node{num(1), num(2), block()}}),
		"local function f(x, y) do end end":             block(api.Node{Kind: api.NodeFunc, Name: "f", Names: []string{"x", "y"}, Kids: []api.Node{block(kind(api.NodeDo, block()))}}),
		"return nil == true .. false":                   script(bin("==", kind(api.NodeNil), bin("..", kind(api.NodeTrue), kind(api.NodeFalse)))),
		"return f('a', b)[1].c":                         script(index(index(call("f", text("a"), name("b")), num(1)), text("c"))),
		"return":                                        block(ret()),
	} {
		n, _, e := syntax.Parse(s)
		if e != api.OK || !syntax.Same(n, want) || syntax.Check(want) != api.OK {
			t.Errorf("%s: %v %v", s, n, e)
		}
	}
}

func TestPlaces(t *testing.T) {
	for s, want := range map[string]int{
		"break x = 1": 6, "return 1 x()": 9, "return 1, 2": 8, "x": 0, "  x": 2, "x + 1": 0, "x y": 0, "f().x": 0, "f() a.b": 4, "1": 0, "'a'": 0, "a = ": 4, "a = b = c": 6, "1 = 2": 0, "(a)": 0, "(1) = 2": 0, "a, b = 1": 0, "f() = 1": 0,
		";": 0, "f();;": 4, "end": 0, "f() end": 4, "do": 2, "do end end": 7, "do else end": 3, "if a": 4, "if a do": 5, "if then end": 3, "if a then": 9, "if a then elseif end": 17, "if a then else elseif b then end": 15, "while a": 7, "while do end": 6, "while a do": 10, "while a then end": 8,
		"for": 3, "for 1 = 2": 4, "for i in x": 6, "for i = 1 do end": 10, "for i = 1, 2, 3, 4 do end": 15, "for i, j = 1, 2 do end": 5, "for i = 1, do end": 11, "local": 5, "local 1": 6, "local a b": 8, "local a,": 8, "local a = ": 10, "local a = 1, 2": 10, "local a, b =  1, 2, 3": 14, "local end": 6, "local a = 1,": 12,
		"local function": 14, "local function 1": 15, "local function f": 16, "local function f end": 17, "local function f(": 17, "local function f(a": 18, "local function f(a,)": 19, "local function f(1)": 17, "local function f()": 18, "function f() end": 0, "local function f() return end end": 30, "then": 0, "in": 0, "and": 0, "not a": 0, "nil": 0,
		"return +": 7, "return 1 +": 10, "return 1 1": 9, "return (1": 9, "return ()": 8, "return f(": 9, "return f(1": 10, "return f(1,)": 11, "return f(,)": 9, "return {": 8, "return {1": 9, "return {,}": 8, "return {1,,2}": 10, "return {a=}": 10, "return {a=": 10, "return {a": 9, "return {[1]}": 11, "return {[1 = 2}": 11, "return {'a' = 1}": 12, "return a.1": 9, "return a.": 9, "return a.end": 9, "return a[": 9, "return a[1": 10, "return a[]": 9, "return 'a'.b": 10, "return {}[1]": 9, "return 1[1]": 8, "return 'a'(1)": 10, "return f()()": 10, "return a.b()": 10, "return (f)()": 10, "return not": 10, "return a not b": 9, "return a = b": 9, "return a ; b()": 11, "return return": 7, "return a : b": 9, "return if": 7, "break;x()": 6, "break break": 6, "a.b.c": 0, "a:b()": 0, "return - ": 9, "return a ..": 11, "return a ~= ": 12,
	} {
		if n, at, e := syntax.Parse(s); e != api.ErrSyntax || at != want || !syntax.Same(n, api.Node{}) {
			t.Errorf("%s: %d, not %d %v", s, at, want, e)
		}
	}
	for s, want := range map[string]int{"return @": 7, "a = 'x": 4, "end 12a": 4} {
		if _, at, e := syntax.Parse(s); e != api.ErrWord || at != want {
			t.Errorf("%s: %d %v", s, at, e)
		}
	}
	if _, at, e := syntax.Parse(strings.Repeat(" ", api.MaxText+1)); e != api.ErrLong || at != 0 {
		t.Error(at, e)
	}
}

func rep(s string, n int) string { return strings.Repeat(s, n) }

func TestDeep(t *testing.T) {
	most := api.MaxDepth
	for i, c := range []struct {
		s  string
		e  api.Errno
		at int
	}{
		{"return " + rep("(", most) + "1" + rep(")", most), api.OK, 0},
		{"return " + rep("(", most+1) + "1" + rep(")", most+1), api.ErrDeep, 7 + most},
		{"return " + rep("( ", most) + "f(1)" + rep(")", most), api.ErrDeep, 7 + 2*most + 1},
		{"return " + rep("(", most) + "a[1]" + rep(")", most), api.ErrDeep, 7 + most + 1},
		{"return " + rep("(", most) + "{}" + rep(")", most), api.ErrDeep, 7 + most},
		{"return " + rep("(", most) + "a.b" + rep(")", most), api.OK, 0},
		{rep("do ", most+1) + rep("end ", most+1), api.ErrDeep, 3 * most},
		{rep("do ", most) + rep("end ", most), api.ErrDeep, 0},
		{rep("do ", 49) + rep("end ", 49), api.OK, 0},
		{rep("do ", 50) + rep("end ", 50), api.ErrDeep, 0},
		{rep("do ", 49) + "f()" + rep(" end", 49), api.OK, 0},
		{rep("do ", most) + "if a then end" + rep(" end", most), api.ErrDeep, 3*most + 5},
		{rep("do ", most) + "while a do end" + rep(" end", most), api.ErrDeep, 3*most + 8},
		{rep("do ", most) + "for i = 1, 2 do end" + rep(" end", most), api.ErrDeep, 3*most + 13},
		{rep("do ", most) + "local function f(a) end" + rep(" end", most), api.ErrDeep, 3*most + 18},
		{rep("do ", most-1) + "if a then else end" + rep(" end", most-1), api.ErrDeep, 0},
		{rep("do ", most) + "local t = {}" + rep(" end", most), api.ErrDeep, 3*most + 10},
		{rep("if a then ", 49) + rep(" end", 49), api.OK, 0},
		{"if a then " + rep("elseif b then ", 300) + " else end", api.OK, 0},
		{"return " + rep("- ", 97) + "1", api.OK, 0}, {"return " + rep("- ", 98) + "1", api.ErrDeep, 0}, {"return " + rep("#", 60000) + "a", api.ErrDeep, 0},
		{"return 1" + rep(" + 1", 97), api.OK, 0}, {"return 1" + rep(" + 1", 98), api.ErrDeep, 0}, {"return 1" + rep("..1", 97), api.OK, 0}, {"return 1" + rep(" .. 1", 98), api.ErrDeep, 0}, {"return 1" + rep(" .. 1", 60000), api.ErrDeep, 0},
		{"return a" + rep(".b", 97), api.OK, 0}, {"return a" + rep(".b", 98), api.ErrDeep, 0}, {"a" + rep(".b", 98) + " = 1", api.ErrDeep, 0}, {"a" + rep(".b", 97) + " = 1", api.OK, 0}, {"f(" + "a" + rep(".b", 200) + ")", api.ErrDeep, 0},
		{"return " + rep("{", 49) + rep("}", 49), api.OK, 0}, {"return " + rep("{", 50) + rep("}", 50), api.ErrDeep, 0}, {"return " + rep("f(", 97) + "1" + rep(")", 97), api.OK, 0}, {"return " + rep("f(", 98) + "1" + rep(")", 98), api.ErrDeep, 0},
		{"return 1" + rep(" + 1", 200) + " +", api.ErrSyntax, 8 + 800 + 2}, {rep("f() ", 2000), api.OK, 0},
	} {
		n, at, e := syntax.Parse(c.s)
		if e != c.e || at != c.at {
			t.Errorf("%d %.40s: %d %v", i, c.s, at, e)
		}
		if e != api.OK {
			continue
		}
		s, f := syntax.Print(n)
		again, _, g := syntax.Parse(s)
		if syntax.Check(n) != api.OK || f != api.OK || g != api.OK || !syntax.Same(n, again) {
			t.Error(i, f, g)
		}
	}
}

func nest(n int, f func(api.Node) api.Node, in api.Node) api.Node {
	for range n {
		in = f(in)
	}
	return in
}

func TestCheck(t *testing.T) {
	one := num(1)
	neg := func(n api.Node) api.Node { return kind(api.NodeNeg, n) }
	for i, n := range []api.Node{
		block(), script(one), block(local("a")), block(local("a b", one)), block(kind(api.NodeBreak)), script(nest(97, neg, one)), script(text(strings.Repeat("x", 100))), script(call("f")), block(call("f", one, one)), script(kind(api.NodeTable)), block(local("a a")), script(api.Node{Kind: api.NodeNil, Kids: []api.Node{}, Names: []string{}}),
	} {
		if syntax.Check(n) != api.OK {
			t.Error("good", i)
		}
	}
	for i, n := range []api.Node{
		{Kind: -1}, {Kind: 25}, one, ret(), call("f"), kind(api.NodeReturn, one), {Kind: api.NodeBlock, Name: "a"}, {Kind: api.NodeBlock, Text: "a"}, {Kind: api.NodeBlock, Int: 1}, {Kind: api.NodeBlock, Names: []string{"a"}},
		block(block()), block(one), block(name("a")), block(ret(), ret()), block(kind(api.NodeBreak), call("f")), block(ret(one, one)), block(ret(block())), block(kind(api.NodeBreak, one)), block(api.Node{Kind: api.NodeReturn, Name: "a"}), block(api.Node{Kind: 99}),
		block(local("")), block(local("a", one, one)), block(local("end")), block(api.Node{Kind: api.NodeLocal, Names: []string{"1"}}), block(local("a", block())), block(api.Node{Kind: api.NodeLocal, Names: []string{"a"}, Int: 1}), block(api.Node{Kind: api.NodeLocal, Names: []string{"a"}, Name: "a"}),
		block(assign(one, one)), block(assign(call("f"), one)), block(kind(api.NodeAssign, name("a"))), block(kind(api.NodeAssign, name("a"), one, one)), block(assign(name("a"), block())), block(api.Node{Kind: api.NodeAssign, Kids: []api.Node{name("a"), one}, Text: "x"}),
		block(kind(api.NodeDo)), block(kind(api.NodeDo, one)), block(kind(api.NodeDo, block(), block())), block(kind(api.NodeIf)), block(kind(api.NodeIf, one)), block(kind(api.NodeIf, block())), block(kind(api.NodeIf, one, one)), block(kind(api.NodeIf, one, block(), one)), block(kind(api.NodeIf, block(), block())), block(kind(api.NodeIf, one, block(), block(), block())),
		block(kind(api.NodeWhile, one)), block(kind(api.NodeWhile, block(), block())), block(kind(api.NodeWhile, one, one)), block(kind(api.NodeFor, one, one, block())), block(api.Node{Kind: api.NodeFor, Names: []string{"a", "b"}, Kids: []api.Node{one, one, block()}}), block(api.Node{Kind: api.NodeFor, Names: []string{"a"}, Kids: []api.Node{one, block()}}), block(api.Node{Kind: api.NodeFor, Names: []string{"a"}, Kids: []api.Node{one, one, one, one, block()}}), block(api.Node{Kind: api.NodeFor, Names: []string{"a"}, Kids: []api.Node{one, block(), block()}}), block(api.Node{Kind: api.NodeFor, Names: []string{"do"}, Kids: []api.Node{one, one, block()}}),
		block(api.Node{Kind: api.NodeFunc, Kids: []api.Node{block()}}), block(api.Node{Kind: api.NodeFunc, Name: "f"}), block(api.Node{Kind: api.NodeFunc, Name: "f", Names: []string{""}, Kids: []api.Node{block()}}), block(api.Node{Kind: api.NodeFunc, Name: "f", Kids: []api.Node{one}}), block(api.Node{Kind: api.NodeFunc, Name: "f", Int: 1, Kids: []api.Node{block()}}),
		script(num(-1)), script(api.Node{Kind: api.NodeInt, Text: "1"}), script(api.Node{Kind: api.NodeNil, Int: 1}), script(api.Node{Kind: api.NodeTrue, Name: "a"}), script(kind(api.NodeFalse, one)), script(api.Node{Kind: api.NodeText, Int: 1}), script(name("")), script(name("and")), script(api.Node{Kind: api.NodeName, Name: "a", Int: 1}), script(kind(api.NodeIndex, one)), script(kind(api.NodeIndex, one, one, one)), script(index(one, block())),
		script(call("")), script(call("f", block())), script(api.Node{Kind: api.NodeCall, Name: "f", Int: 1}), script(kind(api.NodeTable, one)), script(item(one)), script(kind(api.NodeTable, kind(api.NodeItem))), script(kind(api.NodeTable, kind(api.NodeItem, one, one))), script(kind(api.NodeTable, kind(api.NodePair, one))), script(kind(api.NodeTable, item(block()))), script(kind(api.NodeTable, api.Node{Kind: api.NodeItem, Int: 1, Kids: []api.Node{one}})),
		script(bin("", one, one)), script(bin("not", one, one)), script(bin("=", one, one)), script(bin("^", one, one)), script(api.Node{Kind: api.NodeBin, Name: "+", Kids: []api.Node{one}}), script(bin("+", one, block())), script(kind(api.NodeNot)), script(kind(api.NodeNeg, one, one)), script(kind(api.NodeLen, block())), script(api.Node{Kind: api.NodeNot, Name: "not", Kids: []api.Node{one}}), script(ret()),
		script(nest(98, neg, one)), script(nest(60000, neg, one)), nest(50, func(n api.Node) api.Node { return block(kind(api.NodeDo, n)) }, block()),
	} {
		if syntax.Check(n) != api.ErrArg {
			t.Error("bad", i)
		}
		if s, e := syntax.Print(n); s != "" || e != api.ErrArg {
			t.Error("bad printed", i, s, e)
		}
	}
	most := strings.Repeat("x", api.MaxText-len("return '' ;"))
	if s, e := syntax.Print(script(text(most))); e != api.OK || len(s) != api.MaxText {
		t.Error(len(s), e)
	}
	many := slices.Repeat([]api.Node{item(one)}, 600000)
	for i, n := range []api.Node{script(text(most + "x")), script(kind(api.NodeTable, many...))} {
		if s, e := syntax.Print(n); s != "" || e != api.ErrLong {
			t.Error(i, len(s), e)
		}
	}
}

// depth tells how many nodes deep a tree is.
func depth(n api.Node) int {
	most := 0
	for _, k := range n.Kids {
		most = max(most, depth(k))
	}
	return most + 1
}

// TestDepths: whatever stands deepest, at MaxDepth it may be, and one deeper not.
func TestDepths(t *testing.T) {
	one := num(1)
	neg := func(n api.Node) api.Node { return kind(api.NodeNeg, n) }
	counted := api.Node{Kind: api.NodeFor, Names: []string{"i"}, Kids: []api.Node{one, one, block()}}
	deep := counted
	deep.Kids = []api.Node{one, neg(one), block()}
	body := api.Node{Kind: api.NodeFor, Names: []string{"i"}, Kids: []api.Node{one, one, block(kind(api.NodeBreak))}}
	for i, s := range []api.Node{
		ret(), kind(api.NodeBreak), local("a"), local("a", one), assign(name("a"), one), assign(index(one, one), one), call("f"), call("f", one), kind(api.NodeDo, block()), kind(api.NodeIf, one, block()), kind(api.NodeIf, neg(one), block()), kind(api.NodeIf, one, block(ret())), kind(api.NodeIf, one, block(), block(ret())), kind(api.NodeIf, one, block(), neg(neg(one)), block()), kind(api.NodeWhile, one, block()), kind(api.NodeWhile, neg(one), block()), kind(api.NodeWhile, one, block(ret())), counted, deep, body,
		api.Node{Kind: api.NodeFunc, Name: "f", Kids: []api.Node{block()}}, api.Node{Kind: api.NodeFunc, Name: "f", Kids: []api.Node{block(ret())}}, ret(one), ret(index(one, neg(one))), ret(bin("+", one, neg(one))), ret(bin("+", neg(one), one)), ret(kind(api.NodeTable)), ret(kind(api.NodeTable, item(one))), ret(kind(api.NodeTable, kind(api.NodePair, neg(one), one))), ret(kind(api.NodeTable, kind(api.NodePair, one, neg(one)))), ret(call("f", neg(one))), ret(kind(api.NodeNot, one)), ret(kind(api.NodeLen, one)),
	} {
		for dos := 46; dos < 51; dos++ {
			n := nest(dos, func(n api.Node) api.Node { return block(kind(api.NodeDo, n)) }, block(s))
			want := api.OK
			if depth(n) > api.MaxDepth {
				want = api.ErrArg
			}
			if got := syntax.Check(n); got != want {
				t.Error(i, depth(n), got)
			}
			// The same, one deeper by a condition's block.
			n = block(kind(api.NodeIf, nest(depth(n)-2, neg, one), block()), call("f"))
			if depth(n) > api.MaxDepth == (syntax.Check(n) == api.OK) {
				t.Error("condition", i, depth(n))
			}
		}
	}
	tables := func(n api.Node) api.Node { return kind(api.NodeTable, item(n)) }
	for k := 44; k < 52; k++ {
		for _, in := range []api.Node{one, kind(api.NodeTable), neg(one)} {
			n := script(nest(k, tables, in))
			if depth(n) > api.MaxDepth == (syntax.Check(n) == api.OK) {
				t.Error("table", depth(n))
			}
		}
	}
}

func TestWalk(t *testing.T) {
	n, _, _ := syntax.Parse("local a = 1 + f(2) if a then return {a} end")
	for range 2 {
		var kinds []string
		for k := range syntax.All(n) {
			kinds = append(kinds, strconv.Itoa(int(k.Kind)))
		}
		if got := strings.Join(kinds, " "); got != "0 1 21 13 17 13 4 15 0 7 18 19 15" {
			t.Error(got)
		}
		for k := range syntax.All(n) {
			if k.Kind == api.NodeInt {
				break
			}
		}
	}
	if syntax.Count(n) != 13 || syntax.Count(api.Node{}) != 1 || syntax.Count(block(slices.Repeat([]api.Node{ret()}, 1<<20)...)) != 1<<20 || syntax.Count(block(slices.Repeat([]api.Node{ret()}, 1<<20-1)...)) != 1<<20 || syntax.Count(block(slices.Repeat([]api.Node{ret()}, 1<<20-2)...)) != 1<<20-1 {
		t.Error("Count")
	}
}

func TestSame(t *testing.T) {
	all := []api.Node{{}, {Kind: 1}, {Name: "a"}, {Text: "a"}, {Int: 1}, {Names: []string{"a"}}, {Names: []string{"b"}}, {Names: []string{"a", "b"}}, block(block()), block(num(1)), block(num(2)), block(num(1), num(2))}
	for i, a := range all {
		for j, b := range all {
			if syntax.Same(a, b) != (i == j) {
				t.Error(i, j)
			}
		}
	}
	if !syntax.Same(api.Node{Kids: []api.Node{}, Names: []string{}}, api.Node{}) {
		t.Error("nil and empty")
	}
}

// dice makes trees that may be.
type dice uint32

func (d *dice) next(n int) int {
	*d = *d*1664525 + 1013904223
	return int(*d>>8) % n
}

func (d *dice) value(depth int) api.Node {
	n := d.next(14)
	if depth == 0 {
		n %= 6
	}
	v := func() api.Node { return d.value(depth - 1) }
	switch n {
	case 0:
		return kind(api.NodeNil + api.NodeKind(d.next(3)))
	case 1, 2:
		return num(int64(d.next(100)))
	case 3:
		return text(string([]byte{byte(d.next(256)), 'x'}[:d.next(3)]))
	case 4, 5:
		return name(string(rune('a' + d.next(4))))
	case 6:
		return index(v(), v())
	case 7:
		return call("f", slices.Repeat([]api.Node{v()}, d.next(3))...)
	case 8:
		return kind(api.NodeTable, item(v()), kind(api.NodePair, v(), v()))
	case 9:
		return kind(api.NodeNot+api.NodeKind(d.next(3)), v())
	}
	return bin(strings.Fields("or and == ~= < <= > >= .. + - * / %")[d.next(14)], v(), v())
}

func (d *dice) block(depth int) api.Node {
	var l []api.Node
	for range d.next(4) {
		l = append(l, d.statement(depth))
	}
	if last := d.next(6); last < 3 {
		l = append(l, []api.Node{ret(), ret(d.value(2)), kind(api.NodeBreak)}[last])
	}
	return block(l...)
}

func (d *dice) statement(depth int) api.Node {
	n := d.next(9)
	if depth == 0 {
		n %= 4
	}
	v := func() api.Node { return d.value(3) }
	b := func() api.Node { return d.block(depth - 1) }
	switch n {
	case 0:
		return local("a b", slices.Repeat([]api.Node{v()}, d.next(3))...)
	case 1:
		return assign(name("a"), v())
	case 2:
		return assign(index(v(), v()), v())
	case 3:
		return call("g", v())
	case 4:
		return kind(api.NodeDo, b())
	case 5:
		return kind(api.NodeIf, []api.Node{v(), b(), v(), b(), b()}[:2+d.next(2)*2+d.next(1)]...)
	case 6:
		return kind(api.NodeWhile, v(), b())
	case 7:
		return api.Node{Kind: api.NodeFor, Names: []string{"i"}, Kids: append([]api.Node{v(), v(), v()}[d.next(2):], b())}
	}
	return api.Node{Kind: api.NodeFunc, Name: "f", Names: []string{"p", "q"}[:d.next(3)], Kids: []api.Node{b()}}
}

func TestRound(t *testing.T) {
	d := dice(1)
	for i := range 2000 {
		n := d.block(3)
		s, e := syntax.Print(n)
		got, at, f := syntax.Parse(s)
		if syntax.Check(n) != api.OK || e != api.OK || f != api.OK || at != 0 || !syntax.Same(got, n) {
			t.Fatalf("%d: %s: %v %v", i, s, e, f)
		}
		if again, _ := syntax.Print(got); again != s {
			t.Fatalf("%d: %s", i, again)
		}
		// Any word left out or put in: whatever is parsed then may be, and is itself again.
		l := strings.Fields(s)
		if len(l) == 0 {
			continue
		}
		at = d.next(len(l))
		for _, cut := range [][]string{append(slices.Clone(l[:at]), l[at+1:]...), slices.Insert(slices.Clone(l), at, l[d.next(len(l))])} {
			m, at, e := syntax.Parse(strings.Join(cut, " "))
			if e != api.OK {
				if !syntax.Same(m, api.Node{}) || at < 0 || at > len(strings.Join(cut, " ")) {
					t.Fatalf("%v: %d", cut, at)
				}
				continue
			}
			s, f := syntax.Print(m)
			k, _, g := syntax.Parse(s)
			if syntax.Check(m) != api.OK || f != api.OK || g != api.OK || !syntax.Same(k, m) {
				t.Fatalf("%v", cut)
			}
		}
	}
}

func TestMemory(t *testing.T) {
	n, _, _ := syntax.Parse("return f(a, a)")
	n.Kids[0].Kids[0].Kids[0].Name = "b"
	if s, _ := syntax.Print(n); s != "return f ( b , a ) ;" {
		t.Error(s)
	}
}
