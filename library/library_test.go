package library_test

import (
	"math"
	"slices"
	"strconv"
	"strings"
	"testing"

	"tabor/api"
	"tabor/library"
	"tabor/values"
)

func num(n int64) api.Val   { return values.Int(n) }
func text(s string) api.Val { return values.Text(s) }
func tab(n int64) api.Val   { return api.Val{Kind: api.ValTable, Int: n} }

var none = api.Val{}

// row makes a table of values.
func row(t *testing.T, h *values.Heap, l ...api.Val) api.Val {
	t.Helper()
	v, why := h.Table()
	for i, x := range l {
		if w := h.Set(v, num(int64(i)+1), x); w != "" || why != "" {
			t.Fatal(w, why)
		}
	}
	return v
}

// told writes a table's keys and values.
func told(h *values.Heap, v api.Val) string {
	var out []string
	l, _ := h.Keys(v)
	for _, k := range l {
		x, _ := h.Get(v, k)
		out = append(out, values.Told(k)+"="+values.Told(x))
	}
	return strings.Join(out, " ")
}

func TestTexts(t *testing.T) {
	h := values.New(1 << 20)
	own := row(t, h, num(1), text("b"), num(-3))
	long := strings.Repeat("x", api.MaxText)
	for i, c := range []struct {
		name string
		args []api.Val
		want api.Val
		why  string
	}{
		{"sub", []api.Val{text("abcde"), num(2), num(-2)}, text("bcd"), ""}, {"sub", []api.Val{text("abc"), num(-2)}, text("bc"), ""}, {"sub", []api.Val{text("abc"), num(3), num(2)}, text(""), ""}, {"sub", []api.Val{text("abc"), num(0)}, text("abc"), ""}, {"sub", []api.Val{text("abc"), num(-9), num(9)}, text("abc"), ""}, {"sub", []api.Val{text("abc"), num(4)}, text(""), ""}, {"sub", []api.Val{text("abc"), num(3)}, text("c"), ""},
		{"sub", []api.Val{text("abc"), num(1), num(0)}, text(""), ""}, {"sub", []api.Val{text("abc"), num(1), num(-3)}, text("a"), ""}, {"sub", []api.Val{text("abc"), num(1), num(-4)}, text(""), ""}, {"sub", []api.Val{text("abc"), num(math.MinInt64), num(math.MaxInt64)}, text("abc"), ""}, {"sub", []api.Val{text("abc"), num(math.MaxInt64), num(math.MinInt64)}, text(""), ""}, {"sub", []api.Val{text(""), num(1)}, text(""), ""}, {"sub", []api.Val{text("a\x00\xff"), num(2), num(2)}, text("\x00"), ""}, {"sub", []api.Val{text("abc"), num(-3), num(1)}, text("a"), ""},
		{"find", []api.Val{text("banana"), text("nan")}, num(3), ""}, {"find", []api.Val{text("a"), text("b")}, none, ""}, {"find", []api.Val{text("abc"), text("")}, num(1), ""}, {"find", []api.Val{text(""), text("")}, num(1), ""}, {"find", []api.Val{text("a"), text("aa")}, none, ""}, {"find", []api.Val{text("a.c"), text(".")}, num(2), ""},
		{"byte", []api.Val{text("abc"), num(-1)}, num(99), ""}, {"byte", []api.Val{text("abc"), num(1)}, num(97), ""}, {"byte", []api.Val{text("abc"), num(-3)}, num(97), ""}, {"byte", []api.Val{text("abc"), num(0)}, none, ""}, {"byte", []api.Val{text("abc"), num(4)}, none, ""}, {"byte", []api.Val{text("abc"), num(-4)}, none, ""}, {"byte", []api.Val{text("\xff"), num(1)}, num(255), ""}, {"byte", []api.Val{text(""), num(math.MinInt64)}, none, ""},
		{"tonumber", []api.Val{text("-5")}, num(-5), ""}, {"tonumber", []api.Val{text("05")}, none, ""}, {"tonumber", []api.Val{own}, none, ""}, {"tonumber", []api.Val{num(7)}, num(7), ""}, {"tonumber", []api.Val{none}, none, ""}, {"tonumber", []api.Val{text("")}, none, ""}, {"tonumber", []api.Val{text("-0")}, none, ""}, {"tonumber", []api.Val{text("9223372036854775808")}, none, ""}, {"tonumber", []api.Val{text("-9223372036854775808")}, num(math.MinInt64), ""}, {"tonumber", []api.Val{text("0x1")}, none, ""}, {"tonumber", []api.Val{values.Bool(true)}, none, ""},
		{"tostring", []api.Val{num(-5)}, text("-5"), ""}, {"tostring", []api.Val{none}, text("nil"), ""}, {"tostring", []api.Val{values.Bool(false)}, text("false"), ""}, {"tostring", []api.Val{own}, text("table:0"), ""}, {"tostring", []api.Val{text("a b")}, text("a b"), ""},
		{"type", []api.Val{none}, text("nil"), ""}, {"type", []api.Val{values.Bool(true)}, text("boolean"), ""}, {"type", []api.Val{num(1)}, text("number"), ""}, {"type", []api.Val{text("")}, text("string"), ""}, {"type", []api.Val{own}, text("table"), ""},
		{"len", []api.Val{text("abc")}, num(3), ""}, {"len", []api.Val{own}, num(3), ""}, {"len", []api.Val{num(5)}, none, "type"}, {"len", []api.Val{none}, none, "type"},
		{"rep", []api.Val{text("ab"), num(3)}, text("ababab"), ""}, {"rep", []api.Val{text("ab"), num(0)}, text(""), ""}, {"rep", []api.Val{text("ab"), num(-5)}, text(""), ""}, {"rep", []api.Val{text(""), num(math.MaxInt64)}, text(""), ""}, {"rep", []api.Val{text("a"), num(2000000)}, none, "long"}, {"rep", []api.Val{text("ab"), num(math.MaxInt64)}, none, "long"}, {"rep", []api.Val{text(long), num(1)}, text(long), ""}, {"rep", []api.Val{text(long), num(2)}, none, "long"}, {"rep", []api.Val{text("x"), num(api.MaxText)}, text(long), ""}, {"rep", []api.Val{text("x"), num(api.MaxText + 1)}, none, "long"},
		{"char", nil, text(""), ""}, {"char", []api.Val{num(97), num(0), num(255)}, text("a\x00\xff"), ""}, {"char", []api.Val{num(256)}, none, "range"}, {"char", []api.Val{num(-1)}, none, "range"}, {"char", []api.Val{num(300), text("a")}, none, "type"},
		{"concat", []api.Val{own, text("-")}, text("1-b--3"), ""}, {"concat", []api.Val{own, text("")}, text("1b-3"), ""},
	} {
		v, why, ok := library.Call(h, c.name, c.args...)
		if v != c.want || why != c.why || !ok {
			t.Errorf("%d %s: %.40v %s %v", i, c.name, v, why, ok)
		}
	}
}

func TestTables(t *testing.T) {
	h := values.New(1 << 20)
	call := func(want api.Val, why string, name string, args ...api.Val) {
		t.Helper()
		v, w, ok := library.Call(h, name, args...)
		if v != want || w != why || !ok {
			t.Error(name, args, v, w, ok)
		}
	}
	is := func(v api.Val, want string) {
		t.Helper()
		if got := told(h, v); got != want {
			t.Error(got, "not", want)
		}
	}
	a := row(t, h, num(1), num(2))
	call(none, "", "insert", a, num(1), text("x"))
	call(text("x+1+2"), "", "concat", a, text("+"))
	call(none, "", "insert", a, num(4), text("y"))
	call(none, "", "insert", a, text("z"))
	call(none, "", "insert", a, num(2), a)
	is(a, "1=x 2=table:0 3=1 4=2 5=y 6=z")
	call(none, "range", "insert", a, num(0), num(1))
	call(none, "range", "insert", a, num(8), num(1))
	call(none, "range", "insert", a, num(-1), num(1))
	call(none, "range", "insert", a, num(math.MaxInt64), none)
	call(none, "type", "insert", a, num(1), none)
	call(none, "type", "insert", a, none)
	call(none, "type", "concat", a, text(""))
	call(tab(0), "", "remove", a, num(2))
	call(text("z"), "", "remove", a)
	call(text("x"), "", "remove", a, num(1))
	call(text("y"), "", "remove", a, num(3))
	is(a, "1=1 2=2")
	call(none, "range", "remove", a, num(3))
	call(none, "range", "remove", a, num(0))
	call(none, "range", "remove", a, num(-1))
	call(num(2), "", "remove", a)
	call(num(1), "", "remove", a)
	call(none, "", "remove", a)
	call(none, "range", "remove", a, num(1))
	call(none, "range", "remove", a, num(0))
	call(text(""), "", "concat", a, text("-"))
	call(none, "", "insert", a, num(1), values.Bool(false))
	is(a, "1=false")
	call(none, "type", "concat", a, text(""))
	b := row(t, h, text("a"))
	h.Set(b, num(3), text("c"))
	h.Set(b, text("k"), num(9))
	h.Set(b, num(-7), num(8))
	call(none, "", "insert", b, num(1), text("b"))
	is(b, "-7=8 1=b 2=a 3=c k=9")
	call(tab(2), "", "keys", b)
	is(tab(2), "1=-7 2=1 3=2 4=3 5=k")
	is(b, "-7=8 1=b 2=a 3=c k=9")
	call(tab(3), "", "keys", tab(2))
	call(tab(4), "", "keys", row(t, values.New(9)))
	is(tab(4), "1=1")
	x := row(t, h)
	call(text(""), "", "concat", x, text("-"))
}

func TestRefused(t *testing.T) {
	h := values.New(1 << 20)
	own := row(t, h, num(1))
	s, n := text("a"), num(1)
	for i, c := range []struct {
		line string
		args []api.Val
		why  string
	}{
		{"type tostring tonumber len keys", nil, "args"}, {"type tostring tonumber len keys", []api.Val{own, own}, "args"}, {"sub rep find byte concat insert", []api.Val{own}, "args"}, {"sub insert", []api.Val{n, n, n, n}, "args"}, {"rep find byte concat", []api.Val{n, n, n}, "args"}, {"remove", nil, "args"}, {"remove", []api.Val{own, n, n}, "args"},
		{"sub rep byte", []api.Val{n, n}, "type"}, {"sub rep byte", []api.Val{s, s}, "type"}, {"sub", []api.Val{s, n, none}, "type"}, {"sub", []api.Val{s, n, s}, "type"}, {"find", []api.Val{s, n}, "type"}, {"find", []api.Val{n, s}, "type"}, {"char", []api.Val{s}, "type"}, {"char", []api.Val{n, none}, "type"}, {"concat", []api.Val{s, s}, "type"}, {"concat", []api.Val{own, n}, "type"}, {"insert", []api.Val{s, n}, "type"}, {"insert", []api.Val{own, s, n}, "type"}, {"remove", []api.Val{s}, "type"}, {"remove", []api.Val{own, s}, "type"}, {"remove", []api.Val{own, none}, "type"}, {"keys len", []api.Val{n}, "type"}, {"keys", []api.Val{s}, "type"},
		{"type tostring tonumber len keys", []api.Val{tab(9)}, "key"}, {"concat", []api.Val{tab(9), n}, "key"}, {"concat", []api.Val{n, tab(9)}, "type"}, {"insert", []api.Val{own, tab(9)}, "key"}, {"insert", []api.Val{own, n, tab(9)}, "key"}, {"insert", []api.Val{own, s, tab(9)}, "type"}, {"remove", []api.Val{tab(9), s}, "key"}, {"char", []api.Val{tab(9)}, "type"},
		{"type tostring tonumber len keys", []api.Val{{Kind: 9}}, "type"}, {"type tostring tonumber len", []api.Val{{Kind: api.ValInt, Text: "x"}}, "type"}, {"insert", []api.Val{own, {Int: 1}}, "type"}, {"len keys type", []api.Val{{Kind: api.ValTable, Text: "x"}}, "type"}, {"char", []api.Val{num(999), {Kind: api.ValInt, Text: "x"}}, "type"},
	} {
		for _, name := range strings.Fields(c.line) {
			spent := h.Spent()
			if v, why, ok := library.Call(h, name, c.args...); v != none || why != c.why || !ok || h.Spent() != spent {
				t.Error(i, name, v, why, ok)
			}
		}
	}
}

func TestCells(t *testing.T) {
	h := values.New(13)
	a := row(t, h, text("abcdefghijklmnop"), num(2))
	for i, c := range []struct {
		name  string
		args  []api.Val
		why   string
		spent int
	}{
		{"len", []api.Val{a}, "", 3}, {"tostring", []api.Val{num(1)}, "", 4}, {"tonumber", []api.Val{text("1")}, "", 4}, {"find", []api.Val{text("a"), text("a")}, "", 4}, {"rep", []api.Val{text("x"), num(16)}, "", 6}, {"insert", []api.Val{a, num(1), num(3)}, "", 7}, {"remove", []api.Val{a}, "", 7}, {"concat", []api.Val{a, text("")}, "", 9},
		{"keys", []api.Val{a}, "", 12}, {"keys", []api.Val{a}, "memory", 13}, {"char", nil, "memory", 13}, {"type", []api.Val{num(1)}, "memory", 13}, {"insert", []api.Val{a, num(1), num(1)}, "memory", 13}, {"remove", []api.Val{a, num(1)}, "", 13},
	} {
		if v, why, ok := library.Call(h, c.name, c.args...); why != c.why || !ok || h.Spent() != c.spent || why != "" && v != none {
			t.Error(i, c.name, why, h.Spent())
		}
	}
	if got := told(h, a); got != "1=abcdefghijklmnop" {
		t.Error(got)
	}
	full := values.New(1 << 20)
	var l []api.Val
	for i := range int64(api.MaxItems) {
		l = append(l, num(i))
	}
	b := row(t, full, l...)
	if _, why, _ := library.Call(full, "insert", b, num(1), num(7)); why != "long" {
		t.Error(why)
	}
	if v, why, _ := library.Call(full, "remove", b, num(1)); v != num(0) || why != "" {
		t.Error(v, why)
	}
	full.Set(b, num(1), text(strings.Repeat("x", api.MaxText)))
	if _, why, _ := library.Call(full, "concat", b, text("")); why != "long" {
		t.Error(why)
	}
	c := row(t, full, text(strings.Repeat("x", api.MaxText-3)), num(7))
	if v, why, _ := library.Call(full, "concat", c, text("--")); len(v.Text) != api.MaxText || why != "" {
		t.Error(why)
	}
	if _, why, _ := library.Call(full, "concat", c, text("---")); why != "long" {
		t.Error(why)
	}
}

func TestNames(t *testing.T) {
	want := strings.Fields("byte char concat find insert keys len remove rep sub tonumber tostring type")
	if got := library.Names(); !slices.Equal(got, want) {
		t.Error(got)
	}
	for _, name := range want {
		if !library.Has(name) || library.Has(strings.ToUpper(name)) || library.Has(name+" ") {
			t.Error(name)
		}
		for _, h := range []*values.Heap{nil, {}} {
			if v, why, ok := library.Call(h, name); v != none || why != "memory" || !ok {
				t.Error(name, v, why, ok)
			}
		}
	}
	for _, name := range []string{"", "nosuch", "call", "try", "error", "Type"} {
		for _, h := range []*values.Heap{nil, values.New(9)} {
			if v, why, ok := library.Call(h, name, num(1)); library.Has(name) || v != none || why != "" || ok {
				t.Error(name, v, why, ok)
			}
		}
	}
}

func TestFollows(t *testing.T) {
	h := values.New(1 << 20)
	s := "some text\x00\xff, some more"
	for i := range int64(len(s) + 1) {
		a, _, _ := library.Call(h, "sub", text(s), num(1), num(i))
		b, _, _ := library.Call(h, "sub", text(s), num(i+1))
		if a.Text+b.Text != s {
			t.Error(i, a, b)
		}
		for j := i; j <= int64(len(s)); j++ {
			c, _, _ := library.Call(h, "sub", text(s), num(i+1), num(j))
			if at, _, _ := library.Call(h, "find", text(s), c); at.Kind != api.ValInt || at.Int > i+1 {
				t.Error(i, j, at)
			}
		}
	}
	for _, n := range []int64{0, 1, -1, 99, math.MaxInt64, math.MinInt64} {
		a, _, _ := library.Call(h, "tostring", num(n))
		if b, _, _ := library.Call(h, "tonumber", a); b != num(n) || a.Text != strconv.FormatInt(n, 10) {
			t.Error(n, a, b)
		}
	}
	for at := int64(1); at <= 6; at++ {
		a := row(t, h, num(1), num(2), text("c"), num(4), num(5))
		was := told(h, a)
		library.Call(h, "insert", a, num(at), text("x"))
		if v, why, _ := library.Call(h, "remove", a, num(at)); v != text("x") || why != "" || told(h, a) != was {
			t.Error(at, v, why, told(h, a))
		}
	}
}
