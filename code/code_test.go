package code_test

import (
	"math"
	"slices"
	"strings"
	"testing"

	"tabor/api"
	"tabor/code"
)

func in(op api.Op, l ...int) api.Instr {
	l = append(l, 0, 0, 0)
	return api.Instr{Op: op, A: l[0], B: l[1], C: l[2]}
}

func proto(params, regs int, l ...api.Instr) api.Proto {
	return api.Proto{Params: params, Regs: regs, Code: l}
}

func one(regs int, l ...api.Instr) api.Program {
	return api.Program{Protos: []api.Proto{proto(0, regs, l...), proto(2, 3, in(api.OpEnd))}, Ints: []int64{7, -1}, Texts: []string{"len", "x", ""}}
}

func TestExample(t *testing.T) {
	p := api.Program{Protos: []api.Proto{proto(0, 1, in(api.OpInt, 0, 0), in(api.OpReturn, 0))}, Ints: []int64{7}}
	if s, e := code.List(p); s != "func 0 1\n4 0 0 0\n34 0 0 0\nint 7\n" || e != api.OK {
		t.Error(s, e)
	}
	if code.Check(api.Program{Protos: []api.Proto{proto(0, 0, in(api.OpJump, 0))}}) != api.OK {
		t.Error("a jump to itself")
	}
	for _, p := range []api.Program{{Protos: []api.Proto{proto(0, 1, in(api.OpMove, 0, 1), in(api.OpEnd))}}, {Protos: []api.Proto{proto(0, 1, in(api.OpTrue))}}, {Protos: []api.Proto{proto(0, 1)}}, {}} {
		if code.Check(p) != api.ErrArg {
			t.Error(p)
		}
	}
}

// TestOps: each instruction that may be, and each of its operands that may not.
func TestOps(t *testing.T) {
	end := in(api.OpEnd)
	good := []api.Instr{
		in(api.OpNil, 0, 4), in(api.OpNil, 2, 2), in(api.OpTrue, 4), in(api.OpFalse, 0), in(api.OpInt, 4, 1), in(api.OpText, 4, 2), in(api.OpMove, 4, 4), in(api.OpKeys, 4), in(api.OpArgs, 4), in(api.OpTable, 4), in(api.OpGet, 4, 4, 4), in(api.OpSet, 4, 4, 4), in(api.OpNot, 4, 4), in(api.OpNeg, 4, 4), in(api.OpLen, 4, 4),
		in(api.OpJump, 1), in(api.OpUnless, 4, 1), in(api.OpIf, 4, 0), in(api.OpFor, 2, 1, 4), in(api.OpNext, 2, 0, 4), in(api.OpCall, 3, 1), in(api.OpCall, 4, 0), in(api.OpBuilt, 3, 0, 2), in(api.OpBuilt, 4, 0, 0), in(api.OpBuilt, 4, 0, 1), in(api.OpBuilt, 0, 0, 5), in(api.OpReturn, 4), in(api.OpEnd),
	}
	for op := api.OpAdd; op <= api.OpGe; op++ {
		good = append(good, in(op, 4, 4, 4), in(op, 0, 1, 2))
	}
	for _, i := range good {
		if code.Check(one(5, i, end)) != api.OK {
			t.Error("good", i)
		}
	}
	bad := []api.Instr{
		{}, in(-1), in(36), in(math.MaxInt), in(api.OpNil, 2, 1), in(api.OpNil, 0, 5), in(api.OpNil, -1, 0), in(api.OpNil, 0, 0, 1), in(api.OpTrue, 5), in(api.OpTrue, -1), in(api.OpTrue, 0, 1), in(api.OpFalse, 0, 0, 1), in(api.OpFalse, 5), in(api.OpInt, 5, 0), in(api.OpInt, 0, 2), in(api.OpInt, 0, -1), in(api.OpInt, 0, 0, 1), in(api.OpText, 0, 3), in(api.OpText, 0, -1), in(api.OpText, 5, 0), in(api.OpText, 0, 0, 1),
		in(api.OpMove, 5, 0), in(api.OpMove, 0, 5), in(api.OpMove, 0, -1), in(api.OpMove, 0, 0, 1), in(api.OpKeys, 5), in(api.OpKeys, 0, 1), in(api.OpArgs, 5), in(api.OpArgs, 0, 0, 1), in(api.OpTable, 5), in(api.OpTable, 0, 1), in(api.OpGet, 5, 0, 0), in(api.OpGet, 0, 5, 0), in(api.OpGet, 0, 0, 5), in(api.OpSet, 5, 0, 0), in(api.OpSet, 0, 5, 0), in(api.OpSet, 0, 0, 5), in(api.OpSet, 0, 0, -1), in(api.OpNot, 5, 0), in(api.OpNot, 0, 5), in(api.OpNot, 0, 0, 1), in(api.OpNeg, 0, 5), in(api.OpLen, 0, 5), in(api.OpLen, 0, 0, 1),
		in(api.OpJump, 2), in(api.OpJump, -1), in(api.OpJump, 0, 1), in(api.OpJump, 0, 0, 1), in(api.OpUnless, 5, 0), in(api.OpUnless, 0, 2), in(api.OpUnless, 0, 0, 1), in(api.OpIf, 5, 0), in(api.OpIf, 0, -1), in(api.OpIf, 0, 0, 1), in(api.OpFor, 3, 0, 0), in(api.OpFor, -1, 0, 0), in(api.OpFor, 0, 2, 0), in(api.OpFor, 0, 0, 5), in(api.OpNext, 3, 0, 0), in(api.OpNext, 0, 2, 0), in(api.OpNext, 0, 0, -1), in(api.OpFor, math.MaxInt, 0, 0),
		in(api.OpCall, 4, 1), in(api.OpCall, 5, 0), in(api.OpCall, 0, 2), in(api.OpCall, 0, -1), in(api.OpCall, 0, 0, 1), in(api.OpCall, -1, 1), in(api.OpBuilt, 4, 0, 2), in(api.OpBuilt, 5, 0, 0), in(api.OpBuilt, 0, 1, 0), in(api.OpBuilt, 0, 2, 0), in(api.OpBuilt, 0, 3, 0), in(api.OpBuilt, 0, -1, 0), in(api.OpBuilt, 0, 0, 6), in(api.OpBuilt, 0, 0, -1), in(api.OpBuilt, 1, 0, math.MaxInt), in(api.OpBuilt, -1, 0, 1), in(api.OpReturn, 5), in(api.OpReturn, -1), in(api.OpReturn, 0, 1), in(api.OpEnd, 1), in(api.OpEnd, 0, 1), in(api.OpEnd, 0, 0, 1),
	}
	for op := api.OpAdd; op <= api.OpGe; op++ {
		bad = append(bad, in(op, 5, 0, 0), in(op, 0, 5, 0), in(op, 0, 0, 5), in(op, -1, 0, 0), in(op, 0, -1, 0), in(op, 0, 0, -1))
	}
	for _, i := range bad {
		p := one(5, i, end)
		if s, e := code.List(p); code.Check(p) != api.ErrArg || s != "" || e != api.ErrArg {
			t.Error("bad", i)
		}
	}
	for op := api.Op(-1); op < 40; op++ {
		last := op == api.OpJump || op == api.OpReturn || op == api.OpEnd
		if (code.Check(one(5, in(op))) == api.OK) != last {
			t.Error("last", op)
		}
	}
}

func TestBounds(t *testing.T) {
	end := in(api.OpEnd)
	f := proto(0, 0, end)
	long := strings.Repeat("x", api.MaxText)
	for i, c := range []struct {
		p    api.Program
		want api.Errno
	}{
		{api.Program{Protos: slices.Repeat([]api.Proto{f}, 1000)}, api.OK}, {api.Program{Protos: slices.Repeat([]api.Proto{f}, 1001)}, api.ErrArg}, {api.Program{Ints: []int64{1}}, api.ErrArg},
		{api.Program{Protos: []api.Proto{proto(1, 1, end)}}, api.ErrArg}, {api.Program{Protos: []api.Proto{proto(-1, 1, end)}}, api.ErrArg}, {api.Program{Protos: []api.Proto{f, proto(2, 2, end)}}, api.OK}, {api.Program{Protos: []api.Proto{f, proto(3, 2, end)}}, api.ErrArg}, {api.Program{Protos: []api.Proto{f, proto(-1, 2, end)}}, api.ErrArg}, {api.Program{Protos: []api.Proto{proto(0, -1, end)}}, api.ErrArg}, {api.Program{Protos: []api.Proto{f, proto(0, 500, end)}}, api.OK}, {api.Program{Protos: []api.Proto{f, proto(500, 500, end)}}, api.OK}, {api.Program{Protos: []api.Proto{f, proto(0, 501, end)}}, api.ErrArg}, {api.Program{Protos: []api.Proto{f, proto(0, 0)}}, api.ErrArg},
		{api.Program{Protos: []api.Proto{proto(0, 0, slices.Repeat([]api.Instr{end}, api.MaxCode)...)}}, api.OK}, {api.Program{Protos: []api.Proto{proto(0, 0, slices.Repeat([]api.Instr{end}, api.MaxCode+1)...)}}, api.ErrArg}, {api.Program{Protos: []api.Proto{f}, Ints: make([]int64, api.MaxCode-1)}, api.OK}, {api.Program{Protos: []api.Proto{f}, Ints: make([]int64, api.MaxCode)}, api.ErrArg}, {api.Program{Protos: []api.Proto{f}, Ints: make([]int64, api.MaxCode-2), Texts: []string{""}}, api.OK}, {api.Program{Protos: []api.Proto{f, f}, Ints: make([]int64, api.MaxCode-2), Texts: []string{""}}, api.ErrArg}, {api.Program{Protos: []api.Proto{f}, Texts: []string{long}}, api.OK}, {api.Program{Protos: []api.Proto{f}, Texts: []string{long + "x"}}, api.ErrArg},
	} {
		if e := code.Check(c.p); e != c.want {
			t.Error(i, e)
		}
	}
}

func TestList(t *testing.T) {
	p := api.Program{
		Protos: []api.Proto{proto(0, 3, in(api.OpNil, 0, 2), in(api.OpCall, 1, 1), in(api.OpJump, 0)), proto(1, 2, in(api.OpBuilt, 0, 1, 2), in(api.OpReturn, 1))},
		Ints:   []int64{0, -5, math.MaxInt64, math.MinInt64}, Texts: []string{"", "sub", "\x00\xff a"},
	}
	want := "func 0 3\n1 0 2 0\n32 1 1 0\n27 0 0 0\nfunc 1 2\n33 0 1 2\n34 1 0 0\nint 0\nint -5\nint 9223372036854775807\nint -9223372036854775808\ntext -\ntext 737562\ntext 00ff2061\n"
	if s, e := code.List(p); s != want || e != api.OK {
		t.Error(s, e)
	}
	if q, e := code.Read(want); e != api.OK || !code.Same(p, q) {
		t.Error(q, e)
	}
	if code.Count(p) != 5 || code.Count(api.Program{}) != 0 || code.Count(one(0)) != 1 {
		t.Error("Count")
	}
	for i, s := range []string{
		"", "\n", want[:len(want)-1], want + "\n", want + "x\n", "\n" + want, strings.Replace(want, "func 0 3", "func 0  3", 1), strings.Replace(want, "func 0 3", "func 0 3 ", 1), strings.Replace(want, "func 0 3", " func 0 3", 1), strings.Replace(want, "func 0 3", "func 00 3", 1), strings.Replace(want, "func 0 3", "func 0 +3", 1), strings.Replace(want, "func 0 3", "func 0 3 0", 1), strings.Replace(want, "func 0 3", "func 0", 1), strings.Replace(want, "func 0 3", "Func 0 3", 1), strings.Replace(want, "func 0 3", "func 1 3", 1), strings.Replace(want, "func 0 3", "func 0 1", 1), strings.Replace(want, "func 0 3\n", "", 1),
		strings.Replace(want, "1 0 2 0", "1 0 2", 1), strings.Replace(want, "1 0 2 0", "1 0 2 0 0", 1), strings.Replace(want, "1 0 2 0", "1 0 2 -0", 1), strings.Replace(want, "1 0 2 0", "1 0 2 x", 1), strings.Replace(want, "1 0 2 0", "1 0 3 0", 1), strings.Replace(want, "1 0 2 0", "01 0 2 0", 1), strings.Replace(want, "1 0 2 0", "1\t0 2 0", 1), strings.Replace(want, "1 0 2 0", "1 0 2 99999999999999999999", 1), strings.Replace(want, "1 0 2 0", "1 0 2 0\r", 1), strings.Replace(want, "27 0 0 0\n", "", 1),
		strings.Replace(want, "int 0", "int", 1), strings.Replace(want, "int 0", "int 0 0", 1), strings.Replace(want, "int 0", "int 00", 1), strings.Replace(want, "int 0", "int x", 1), strings.Replace(want, "int 0", "int 9223372036854775808", 1), strings.Replace(want, "text -", "text", 1), strings.Replace(want, "text -", "text ", 1), strings.Replace(want, "text -", "text --", 1), strings.Replace(want, "737562", "73756", 1), strings.Replace(want, "737562", "73756G", 1), strings.Replace(want, "ff", "FF", 1), strings.Replace(want, "737562", "73 7562", 1), strings.Replace(want, "int -5\n", "text -\n", 1), strings.Replace(want, "text -\n", "text -\nint 1\n", 1), "int 5\n" + want, want + "func 0 0\n35 0 0 0\n", strings.ReplaceAll(want, "\n", "\r\n"), strings.Replace(want, "737562", "+737562", 1), strings.Replace(want, "737562", "+37562", 1),
	} {
		if q, e := code.Read(s); e != api.ErrCode || !code.Same(q, api.Program{}) {
			t.Error(i, e)
		}
	}
}

func TestSame(t *testing.T) {
	end := in(api.OpEnd)
	all := []api.Program{{}, {Protos: []api.Proto{proto(0, 0)}}, {Protos: []api.Proto{proto(0, 0, end)}}, {Protos: []api.Proto{proto(1, 0, end)}}, {Protos: []api.Proto{proto(0, 1, end)}}, {Protos: []api.Proto{proto(0, 0, in(api.OpEnd, 1))}}, {Protos: []api.Proto{proto(0, 0, end, end)}}, {Protos: []api.Proto{proto(0, 0, end), proto(0, 0, end)}}, {Ints: []int64{1}}, {Ints: []int64{2}}, {Ints: []int64{1, 2}}, {Texts: []string{"a"}}, {Texts: []string{"b"}}}
	for i, a := range all {
		for j, b := range all {
			if code.Same(a, b) != (i == j) {
				t.Error(i, j)
			}
		}
	}
	if !code.Same(api.Program{}, api.Program{Protos: []api.Proto{}, Ints: []int64{}, Texts: []string{}}) {
		t.Error("nil and empty")
	}
}
