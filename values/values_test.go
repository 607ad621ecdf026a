package values_test

import (
	"math"
	"math/big"
	"slices"
	"strconv"
	"strings"
	"testing"

	"tabor/api"
	"tabor/values"
)

func num(n int64) api.Val   { return api.Val{Kind: api.ValInt, Int: n} }
func text(s string) api.Val { return api.Val{Kind: api.ValText, Text: s} }
func truth(b bool) api.Val {
	if b {
		return api.Val{Kind: api.ValBool, Int: 1}
	}
	return api.Val{Kind: api.ValBool}
}
func table(n int64) api.Val { return api.Val{Kind: api.ValTable, Int: n} }

// bad are values that may not be.
func bad() []api.Val {
	return []api.Val{{Int: 1}, {Text: "x"}, {Kind: api.ValBool, Int: 2}, {Kind: api.ValBool, Int: -1}, {Kind: api.ValBool, Text: "x"}, {Kind: api.ValInt, Text: "x"}, {Kind: api.ValText, Int: 1}, {Kind: api.ValTable, Text: "x"}, {Kind: -1}, {Kind: 5}}
}

// made makes a heap with n tables.
func made(t *testing.T, cells, n int) *values.Heap {
	t.Helper()
	h := values.New(cells)
	for i := range n {
		if v, why := h.Table(); v != table(int64(i)) || why != "" {
			t.Fatal(v, why)
		}
	}
	return h
}

func TestOps(t *testing.T) {
	h := made(t, 1<<20, 2)
	lo, hi := num(math.MinInt64), num(math.MaxInt64)
	for i, c := range []struct {
		op   string
		a, b api.Val
		want api.Val
		why  string
	}{
		{"/", num(-7), num(2), num(-4), ""}, {"%", num(-7), num(2), num(1), ""}, {"%", num(7), num(-2), num(-1), ""}, {"/", num(7), num(-2), num(-4), ""}, {"/", num(-7), num(-2), num(3), ""}, {"%", num(-7), num(-2), num(-1), ""}, {"/", num(6), num(-3), num(-2), ""}, {"%", num(6), num(-3), num(0), ""},
		{"/", num(1), num(0), api.Val{}, "zero"}, {"%", num(1), num(0), api.Val{}, "zero"}, {"/", lo, num(-1), api.Val{}, "over"}, {"%", lo, num(-1), num(0), ""}, {"/", lo, num(1), lo, ""}, {"/", lo, num(2), num(math.MinInt64 / 2), ""}, {"/", num(-1), hi, num(-1), ""}, {"%", num(-1), hi, num(math.MaxInt64 - 1), ""}, {"%", num(1), lo, num(math.MinInt64 + 1), ""},
		{"+", hi, num(1), api.Val{}, "over"}, {"+", lo, num(-1), api.Val{}, "over"}, {"+", lo, hi, num(-1), ""}, {"+", num(2), num(3), num(5), ""}, {"-", lo, num(1), api.Val{}, "over"}, {"-", hi, num(-1), api.Val{}, "over"}, {"-", num(0), lo, api.Val{}, "over"}, {"-", num(-1), lo, hi, ""}, {"-", num(2), num(3), num(-1), ""},
		{"*", lo, num(-1), api.Val{}, "over"}, {"*", num(-1), lo, api.Val{}, "over"}, {"*", hi, num(2), api.Val{}, "over"}, {"*", lo, num(1), lo, ""}, {"*", num(0), lo, num(0), ""}, {"*", num(1 << 32), num(1 << 31), api.Val{}, "over"}, {"*", num(1 << 32), num(-1 << 31), lo, ""}, {"*", num(-3), num(4), num(-12), ""},
		{"..", text("a"), num(1), text("a1"), ""}, {"..", num(-1), num(2), text("-12"), ""}, {"..", text(""), text(""), text(""), ""}, {"..", text("a"), truth(true), api.Val{}, "type"}, {"..", api.Val{}, text("a"), api.Val{}, "type"}, {"..", table(0), text("a"), api.Val{}, "type"},
		{"+", text("a"), num(1), api.Val{}, "type"}, {"+", num(1), text("1"), api.Val{}, "type"}, {"-", api.Val{}, num(1), api.Val{}, "type"}, {"*", truth(true), num(1), api.Val{}, "type"}, {"/", table(0), num(0), api.Val{}, "type"}, {"%", num(1), api.Val{}, api.Val{}, "type"},
		{"==", table(0), table(1), truth(false), ""}, {"==", table(1), table(1), truth(true), ""}, {"==", num(1), text("1"), truth(false), ""}, {"==", api.Val{}, truth(false), truth(false), ""}, {"==", api.Val{}, api.Val{}, truth(true), ""}, {"==", text("a"), text("a"), truth(true), ""}, {"~=", text("a"), text("a"), truth(false), ""}, {"~=", text("a"), text("b"), truth(true), ""}, {"==", table(9), table(9), truth(true), ""}, {"~=", num(0), truth(false), truth(true), ""}, {"==", truth(true), truth(true), truth(true), ""},
		{"<", num(1), num(2), truth(true), ""}, {"<", num(2), num(2), truth(false), ""}, {"<=", num(2), num(2), truth(true), ""}, {">", num(2), num(1), truth(true), ""}, {">=", num(1), num(2), truth(false), ""}, {">", num(2), num(2), truth(false), ""}, {"<=", num(3), num(2), truth(false), ""}, {"<", text("a"), text("a"), truth(false), ""}, {">", text("a"), text("a"), truth(false), ""}, {">=", text("a"), text("a"), truth(true), ""}, {"<=", text("b"), text("a"), truth(false), ""}, {">=", lo, lo, truth(true), ""}, {"<", lo, hi, truth(true), ""},
		{"<", text("a"), text("b"), truth(true), ""}, {"<", text(""), text("\x00"), truth(true), ""}, {">", text("\xff"), text("z"), truth(true), ""}, {"<=", text("a"), text("a"), truth(true), ""}, {">=", text("a"), text("aa"), truth(false), ""}, {">", text("B"), text("a"), truth(false), ""},
		{"<", num(1), text("2"), api.Val{}, "type"}, {"<=", truth(false), truth(true), api.Val{}, "type"}, {">", api.Val{}, api.Val{}, api.Val{}, "type"}, {">=", table(0), table(0), api.Val{}, "type"},
		{"and", num(1), num(1), api.Val{}, "type"}, {"or", num(1), num(1), api.Val{}, "type"}, {"", num(1), num(1), api.Val{}, "type"}, {"=", num(1), num(1), api.Val{}, "type"}, {"not", num(1), num(1), api.Val{}, "type"}, {"++", num(1), num(1), api.Val{}, "type"},
	} {
		if v, why := h.Op(c.op, c.a, c.b); v != c.want || why != c.why {
			t.Error(i, c.op, v, why)
		}
	}
	for _, v := range bad() {
		for _, op := range strings.Fields("+ - * / % .. < <= > >= == ~=") {
			for _, pair := range [][2]api.Val{{v, num(1)}, {num(1), v}, {v, v}} {
				if got, why := h.Op(op, pair[0], pair[1]); got != (api.Val{}) || why != "type" {
					t.Error(op, v, got, why)
				}
			}
		}
	}
}

func TestReckoning(t *testing.T) {
	h := values.New(0)
	l := []int64{0, 1, -1, 2, -2, 3, -3, 7, -7, 10, 1 << 31, -1 << 31, 3037000500, -3037000500, math.MaxInt64, math.MinInt64, math.MaxInt64 - 1, math.MinInt64 + 1, math.MaxInt64 / 2, math.MinInt64 / 2}
	for _, a := range l {
		for _, b := range l {
			x, y := big.NewInt(a), big.NewInt(b)
			for _, op := range strings.Fields("+ - * / %") {
				z := new(big.Int)
				want := ""
				switch op {
				case "+":
					z.Add(x, y)
				case "-":
					z.Sub(x, y)
				case "*":
					z.Mul(x, y)
				default:
					if b == 0 {
						want = "zero"
						break
					}
					q, m := new(big.Int), new(big.Int)
					q.DivMod(x, y, m)
					if m.Sign() != 0 && b < 0 {
						q.Sub(q, big.NewInt(1))
						m.Add(m, y)
					}
					if z = q; op == "%" {
						z = m
					}
				}
				if want == "" && !z.IsInt64() {
					want = "over"
				}
				v, why := h.Op(op, num(a), num(b))
				if why != want || why == "" && v != num(z.Int64()) || why != "" && v != (api.Val{}) {
					t.Error(a, op, b, v, why, want)
				}
			}
			q, w := h.Op("/", num(a), num(b))
			m, _ := h.Op("%", num(a), num(b))
			if p, why := h.Op("*", q, num(b)); w == "" && why == "" {
				if s, why := h.Op("+", p, m); why == "" && s != num(a) {
					t.Error(a, b, s)
				}
			}
		}
	}
}

func TestTables(t *testing.T) {
	h := made(t, 1<<20, 3)
	tab := table(1)
	set := func(k, v api.Val) {
		t.Helper()
		if why := h.Set(tab, k, v); why != "" {
			t.Error(k, v, why)
		}
		if got, why := h.Get(tab, k); got != v || why != "" {
			t.Error(k, got, why)
		}
	}
	length := func(want int64) {
		t.Helper()
		if n, why := h.Len(tab); n != want || why != "" {
			t.Error("Len", n, why)
		}
	}
	length(0)
	set(num(1), text("x"))
	set(num(2), text("y"))
	length(2)
	set(num(1), api.Val{})
	length(0)
	set(num(4), num(4))
	set(num(3), truth(false))
	length(0)
	set(num(1), table(1))
	length(4)
	set(num(3), api.Val{})
	length(2)
	set(num(0), num(0))
	set(num(-1), num(0))
	set(num(math.MaxInt64), num(0))
	set(num(math.MinInt64), num(0))
	set(text("1"), text("one"))
	set(text(""), table(2))
	set(text("none"), api.Val{})
	length(2)
	set(num(9), num(9))
	set(num(9), api.Val{})
	set(num(math.MinInt64+1), api.Val{})
	set(num(-1), api.Val{})
	set(num(-1), num(0))
	length(2)
	set(num(3), num(3))
	length(4)
	set(num(4), api.Val{})
	length(3)
	set(num(3), api.Val{})
	length(2)
	set(num(4), num(4))
	length(2)
	if v, _ := h.Get(tab, num(1)); v != table(1) {
		t.Error(v)
	}
	want := []api.Val{num(math.MinInt64), num(-1), num(0), num(1), num(2), num(4), num(math.MaxInt64), text(""), text("1")}
	if l, why := h.Keys(tab); !slices.Equal(l, want) || why != "" {
		t.Error(l, why)
	}
	if l, why := h.Keys(table(0)); len(l) != 0 || why != "" {
		t.Error(l, why)
	}
	if v, why := h.Get(table(0), num(1)); v != (api.Val{}) || why != "" {
		t.Error("another table", v, why)
	}
	if n, why := h.Len(text("abc")); n != 3 || why != "" {
		t.Error(n, why)
	}
}

func TestRefused(t *testing.T) {
	h := made(t, 1<<20, 2)
	h.Set(table(0), num(1), num(1))
	long := strings.Repeat("x", api.MaxText+1)
	spent := h.Spent()
	for i, c := range []struct{ t, k, want api.Val }{{table(2), num(1), text("key")}, {table(math.MaxInt64), num(1), text("key")}, {table(0), api.Val{}, text("key")}, {table(0), truth(true), text("key")}, {table(0), table(0), text("key")}, {num(1), num(1), text("type")}, {api.Val{}, num(1), text("type")}, {text("a"), num(1), text("type")}, {truth(true), num(1), text("type")}} {
		if v, why := h.Get(c.t, c.k); v != (api.Val{}) || why != c.want.Text {
			t.Error(i, v, why)
		}
		if why := h.Set(c.t, c.k, num(1)); why != c.want.Text {
			t.Error(i, why)
		}
	}
	for i, v := range bad() {
		a, x := h.Get(v, num(1))
		b, y := h.Get(table(0), v)
		n, z := h.Len(v)
		l, w := h.Keys(v)
		if a != (api.Val{}) || b != (api.Val{}) || n != 0 || l != nil || x != "type" || y != "type" || z != "type" || w != "type" {
			t.Error(i, x, y, z, w)
		}
		if h.Set(v, num(1), num(1)) != "type" || h.Set(table(0), v, num(1)) != "type" || h.Set(table(0), num(1), v) != "type" || h.Set(table(9), num(1), v) != "type" || h.Set(table(0), api.Val{}, v) != "type" {
			t.Error(i, "Set")
		}
	}
	if _, why := h.Len(num(1)); why != "type" {
		t.Error(why)
	}
	if _, why := h.Len(table(2)); why != "key" {
		t.Error(why)
	}
	if _, why := h.Keys(table(2)); why != "key" {
		t.Error(why)
	}
	if _, why := h.Keys(num(2)); why != "type" {
		t.Error(why)
	}
	if h.Set(table(0), num(2), text(long)) != "long" || h.Set(table(0), text(long), num(1)) != "long" || h.Set(table(0), num(2), table(7)) != "key" {
		t.Error("long, key")
	}
	if most := text(long[1:]); h.Set(table(0), most, most) != "" || h.Set(table(0), most, api.Val{}) != "" {
		t.Error("the longest text")
	}
	spent++
	if v, why := h.Get(table(0), text(long)); v != (api.Val{}) || why != "" {
		t.Error(why)
	}
	if v, why := h.Make(long); v != (api.Val{}) || why != "long" {
		t.Error(why)
	}
	if v, why := h.Op("..", text(long[1:]), num(1)); v != (api.Val{}) || why != "long" {
		t.Error(why)
	}
	if h.Spent() != spent {
		t.Error("what is refused takes cells")
	}
	if v, why := h.Op("..", text(long[2:]), num(1)); len(v.Text) != api.MaxText || why != "" {
		t.Error(why)
	}
}

func TestCells(t *testing.T) {
	h := values.New(8)
	spent := func(want int) {
		t.Helper()
		if h.Spent() != want {
			t.Error("Spent", h.Spent(), want)
		}
	}
	spent(0)
	h.Table()
	spent(1)
	h.Set(table(0), num(1), text("a long text that takes no cells of its own"))
	spent(2)
	h.Set(table(0), num(1), num(2))
	h.Set(table(0), num(1), api.Val{})
	h.Set(table(0), num(5), api.Val{})
	spent(2)
	h.Set(table(0), num(1), num(2))
	spent(3)
	h.Make("")
	spent(4)
	h.Make("123456789012345")
	spent(5)
	if _, why := h.Make(strings.Repeat("x", 48)); why != "memory" {
		t.Error(why)
	}
	spent(5)
	if v, why := h.Op("..", text("12345678"), num(12345678)); v.Text != "1234567812345678" || why != "" {
		t.Error(v, why)
	}
	spent(7)
	if _, why := h.Make(strings.Repeat("x", 16)); why != "memory" {
		t.Error(why)
	}
	h.Make("x")
	spent(8)
	if _, why := h.Table(); why != "memory" {
		t.Error(why)
	}
	if why := h.Set(table(0), num(2), num(2)); why != "memory" {
		t.Error(why)
	}
	if _, why := h.Op("..", text(""), text("")); why != "memory" {
		t.Error(why)
	}
	if why := h.Set(table(0), num(1), num(3)); why != "" {
		t.Error(why)
	}
	if why := h.Set(table(0), num(1), api.Val{}); why != "" {
		t.Error(why)
	}
	if v, why := h.Op("+", num(1), num(2)); v != num(3) || why != "" {
		t.Error(why)
	}
	spent(8)
	for _, cells := range []int{0, -1, math.MinInt} {
		h := values.New(cells)
		if v, why := h.Table(); v != (api.Val{}) || why != "memory" || h.Spent() != 0 {
			t.Error(cells, why)
		}
		if v, why := h.Op("==", num(1), num(1)); v != truth(true) || why != "" {
			t.Error(cells, why)
		}
	}
}

func TestItems(t *testing.T) {
	h := made(t, 1<<20, 1)
	for i := range int64(api.MaxItems / 2) {
		if h.Set(table(0), num(i), num(i)) != "" || h.Set(table(0), text(strconv.FormatInt(i, 10)), num(i)) != "" {
			t.Fatal(i)
		}
	}
	spent := h.Spent()
	if h.Set(table(0), num(-1), num(1)) != "long" || h.Set(table(0), text("x"), num(1)) != "long" || h.Set(table(0), num(7), num(1)) != "" || h.Set(table(0), num(-1), api.Val{}) != "" || h.Spent() != spent {
		t.Error("one more than MaxItems")
	}
	if h.Set(table(0), num(0), api.Val{}) != "" || h.Set(table(0), num(-1), num(1)) != "" {
		t.Error("one in the place of another")
	}
	full := made(t, 1+api.MaxItems, 1)
	for i := range int64(api.MaxItems) {
		full.Set(table(0), num(i), num(i))
	}
	if why := full.Set(table(0), num(-1), num(1)); why != "long" {
		t.Error("long ahead of memory", why)
	}
}

func TestPlain(t *testing.T) {
	for i, v := range []api.Val{{}, truth(true), truth(false), num(0), num(-5), text(""), text("\xff"), table(0), table(7)} {
		if !values.Check(v) || values.So(v) != (i != 0 && i != 2) {
			t.Error(i, v)
		}
		for j, w := range []api.Val{{}, truth(true), truth(false), num(0), num(-5), text(""), text("\xff"), table(0), table(7)} {
			if values.Same(v, w) != (i == j) {
				t.Error(i, j)
			}
		}
	}
	for i, v := range bad() {
		if values.Check(v) {
			t.Error(i, v)
		}
		if n, why := values.Neg(v); n != (api.Val{}) || why != "type" {
			t.Error(i, why)
		}
	}
	if values.Int(-3) != num(-3) || values.Bool(true) != truth(true) || values.Bool(false) != truth(false) || values.Text("x") != text("x") {
		t.Error("Int, Bool, Text")
	}
	for v, want := range map[api.Val]string{{}: "nil", truth(true): "true", truth(false): "false", num(-12): "-12", text("a b"): "a b", table(3): "table:3", num(math.MinInt64): "-9223372036854775808"} {
		if got := values.Told(v); got != want {
			t.Error(v, got)
		}
	}
	for _, c := range []struct {
		v, want api.Val
		why     string
	}{{num(5), num(-5), ""}, {num(0), num(0), ""}, {num(math.MaxInt64), num(-math.MaxInt64), ""}, {num(math.MinInt64), api.Val{}, "over"}, {text("1"), api.Val{}, "type"}, {api.Val{}, api.Val{}, "type"}, {truth(true), api.Val{}, "type"}, {table(0), api.Val{}, "type"}} {
		if v, why := values.Neg(c.v); v != c.want || why != c.why {
			t.Error(c.v, v, why)
		}
	}
}

func TestNil(t *testing.T) {
	for _, h := range []*values.Heap{nil, {}} {
		_, a := h.Table()
		_, b := h.Get(num(1), api.Val{})
		c := h.Set(num(1), api.Val{}, api.Val{})
		_, d := h.Len(num(1))
		_, e := h.Keys(num(1))
		_, f := h.Make(strings.Repeat("x", api.MaxText+1))
		_, g := h.Op("?", num(1), num(2))
		for i, why := range []string{a, b, c, d, e, f, g} {
			if why != "memory" {
				t.Error(i, why)
			}
		}
		if h.Spent() != 0 {
			t.Error("Spent")
		}
	}
}
