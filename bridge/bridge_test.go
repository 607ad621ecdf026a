package bridge_test

import (
	"strconv"
	"strings"
	"testing"

	"tabor/api"
	"tabor/bridge"
	"tabor/resp"
	"tabor/values"
)

func num(n int64) api.Val                    { return values.Int(n) }
func text(s string) api.Val                  { return values.Text(s) }
func list(l ...api.Reply) api.Reply          { return api.Reply{Kind: api.ReplyList, List: l} }
func number(n int64) api.Reply               { return api.Reply{Kind: api.ReplyInt, Int: n} }
func of(k api.ReplyKind, s string) api.Reply { return api.Reply{Kind: k, Text: s} }

func row(t *testing.T, h *values.Heap, l ...api.Val) api.Val {
	t.Helper()
	v, why := h.Table()
	for i, x := range l {
		if w := h.Set(v, num(int64(i)+1), x); w != "" || why != "" {
			t.Fatal(w, why)
		}
	}
	return v
}

// under makes a table of values under texts.
func under(t *testing.T, h *values.Heap, l ...any) api.Val {
	t.Helper()
	v := row(t, h)
	for i := 0; i < len(l); i += 2 {
		if w := h.Set(v, text(l[i].(string)), l[i+1].(api.Val)); w != "" {
			t.Fatal(w)
		}
	}
	return v
}

func TestReply(t *testing.T) {
	h := values.New(1 << 20)
	empty := row(t, h)
	gap := row(t, h, num(1), num(2), num(3))
	h.Set(gap, num(2), api.Val{})
	h.Set(gap, text("x"), num(9))
	spent := h.Spent()
	for i, c := range []struct {
		v    api.Val
		want api.Reply
	}{
		{values.Bool(true), number(1)}, {values.Bool(false), api.Reply{}}, {api.Val{}, api.Reply{}}, {num(5), number(5)}, {num(-7), number(-7)}, {text("x"), of(api.ReplyText, "x")}, {text("a\r\n"), of(api.ReplyText, "a\r\n")}, {empty, list()}, {gap, list(number(1))},
	} {
		if r, why := bridge.Reply(h, c.v); !resp.Same(r, c.want) || why != "" {
			t.Error(i, r, why)
		}
	}
	if h.Spent() != spent {
		t.Error("Reply takes cells")
	}
	for i, c := range []struct {
		v    api.Val
		want api.Reply
	}{
		{row(t, h, num(1), empty), list(number(1), list())}, {under(t, h, "err", text("NO")), of(api.ReplyError, "NO")}, {under(t, h, "ok", text("FINE")), of(api.ReplyStatus, "FINE")}, {under(t, h, "ok", text("a"), "err", text("b")), of(api.ReplyError, "b")}, {under(t, h, "ok", text("a"), "err", num(1)), of(api.ReplyStatus, "a")}, {under(t, h, "ok", num(1), "err", values.Bool(true)), list()}, {under(t, h, "err", text("")), of(api.ReplyError, "")},
		{row(t, h, values.Bool(false), values.Bool(true), text(""), under(t, h, "ok", text("y"))), list(api.Reply{}, number(1), of(api.ReplyText, ""), of(api.ReplyStatus, "y"))},
	} {
		if r, why := bridge.Reply(h, c.v); !resp.Same(r, c.want) || why != "" || resp.Check(r) != api.OK {
			t.Error(i, r, why)
		}
	}
}

// nested makes n tables in one another.
func nested(t *testing.T, h *values.Heap, n int) api.Val {
	v := row(t, h)
	for range n - 1 {
		v = row(t, h, v)
	}
	return v
}

func TestReplyRefused(t *testing.T) {
	h := values.New(1 << 20)
	most := strings.Repeat("x", api.MaxText)
	self := row(t, h)
	h.Set(self, num(1), self)
	twice := row(t, h)
	h.Set(twice, num(1), twice)
	h.Set(twice, num(2), twice)
	wide := row(t, h)
	for i := range int64(api.MaxItems) {
		h.Set(wide, num(i+1), num(i))
	}
	for i, c := range []struct {
		v   api.Val
		why string
	}{
		{api.Val{Kind: 9}, "type"}, {api.Val{Int: 1}, "type"}, {api.Val{Kind: api.ValTable, Text: "x"}, "type"}, {api.Val{Kind: api.ValBool, Int: 5}, "type"}, {api.Val{Kind: api.ValTable, Int: 999999}, "key"},
		{self, "reply"}, {twice, "reply"}, {nested(t, h, api.MaxDepth), ""}, {nested(t, h, api.MaxDepth+1), "reply"}, {wide, ""}, {row(t, h, wide), "reply"}, {row(t, h, row(t, h), wide), "reply"}, {text(most + "x"), "reply"}, {text(most), ""}, {row(t, h, text(most)), ""}, {row(t, h, text(most), text("x")), "reply"}, {row(t, h, text(most), text("")), ""},
		{under(t, h, "err", text("a\nb")), "reply"}, {under(t, h, "err", text("a\rb")), "reply"}, {under(t, h, "ok", text("\n")), "reply"}, {under(t, h, "err", text("a"), "ok", text("\n")), ""}, {row(t, h, text(most), under(t, h, "ok", text("x"))), "reply"}, {row(t, h, num(1), under(t, h, "err", text("\n"))), "reply"},
	} {
		r, why := bridge.Reply(h, c.v)
		if why != c.why || why != "" && !resp.Same(r, api.Reply{}) || why == "" && resp.Check(r) != api.OK {
			t.Error(i, why)
		}
	}
	deep := row(t, h, under(t, h, "ok", text("x")))
	for range api.MaxDepth - 1 {
		deep = row(t, h, deep)
	}
	if _, why := bridge.Reply(h, deep); why != "" {
		t.Error("a status is no list", why)
	}
}

func replies() []api.Reply {
	deep := list()
	for range api.MaxDepth - 1 {
		deep = list(deep)
	}
	return []api.Reply{{}, number(0), number(-9), of(api.ReplyText, ""), of(api.ReplyText, "a\x00\r\n"), of(api.ReplyStatus, "OK"), of(api.ReplyError, "ERR no"), of(api.ReplyError, ""), list(), list(api.Reply{}, number(7)), list(list(of(api.ReplyStatus, "x")), list(), api.Reply{}, of(api.ReplyError, "y"), of(api.ReplyText, "z")), deep}
}

func TestRound(t *testing.T) {
	for i, r := range replies() {
		h := values.New(1 << 20)
		v, why := bridge.Value(h, r)
		spent := h.Spent()
		back, w := bridge.Reply(h, v)
		if why != "" || w != "" || !resp.Same(back, r) || h.Spent() != spent || !values.Check(v) {
			t.Error(i, why, w, back)
		}
	}
}

func TestValue(t *testing.T) {
	h := values.New(1 << 20)
	for i, c := range []struct {
		r     api.Reply
		want  api.Val
		spent int
	}{
		{api.Reply{}, values.Bool(false), 0}, {number(7), num(7), 0}, {of(api.ReplyText, "0123456789abcdef"), text("0123456789abcdef"), 2}, {of(api.ReplyStatus, "OK"), api.Val{Kind: api.ValTable}, 5}, {of(api.ReplyError, "NO"), api.Val{Kind: api.ValTable, Int: 1}, 8}, {list(api.Reply{}, number(7)), api.Val{Kind: api.ValTable, Int: 2}, 11}, {list(list()), api.Val{Kind: api.ValTable, Int: 3}, 14},
	} {
		if v, why := bridge.Value(h, c.r); v != c.want || why != "" || h.Spent() != c.spent {
			t.Error(i, v, why, h.Spent())
		}
	}
	for i, c := range []struct {
		t    int64
		k    api.Val
		want api.Val
	}{{0, text("ok"), text("OK")}, {0, text("err"), api.Val{}}, {1, text("err"), text("NO")}, {1, text("ok"), api.Val{}}, {2, num(1), values.Bool(false)}, {2, num(2), num(7)}, {3, num(1), api.Val{Kind: api.ValTable, Int: 4}}} {
		if v, why := h.Get(api.Val{Kind: api.ValTable, Int: c.t}, c.k); v != c.want || why != "" {
			t.Error(i, v, why)
		}
	}
	if n, _ := h.Len(api.Val{Kind: api.ValTable, Int: 2}); n != 2 {
		t.Error(n)
	}
}

func TestValueRefused(t *testing.T) {
	h := values.New(100)
	for i, r := range []api.Reply{{Kind: 9}, {Int: 1}, of(api.ReplyStatus, "a\n"), list(list(), api.Reply{Text: "x"}), of(api.ReplyText, strings.Repeat("x", api.MaxText+1)), list(make([]api.Reply, api.MaxItems+1)...)} {
		if v, why := bridge.Value(h, r); v != (api.Val{}) || why != "reply" || h.Spent() != 0 {
			t.Error(i, v, why, h.Spent())
		}
	}
	r := list(number(1), of(api.ReplyStatus, "x"), of(api.ReplyText, strings.Repeat("y", 16)))
	for cells, want := range []string{"memory 0", "memory 1", "memory 2", "memory 3", "memory 4", "memory 5", "memory 6", "memory 6", "memory 8", " 9"} {
		h := values.New(cells)
		v, why := bridge.Value(h, r)
		if got := why + " " + strconv.Itoa(h.Spent()); got != want || why != "" && v != (api.Val{}) {
			t.Error(cells, got)
		}
	}
	for _, h := range []*values.Heap{nil, {}} {
		if v, why := bridge.Value(h, api.Reply{Kind: 9}); v != (api.Val{}) || why != "memory" {
			t.Error(why)
		}
		if r, why := bridge.Reply(h, api.Val{Kind: 9}); !resp.Same(r, api.Reply{}) || why != "memory" {
			t.Error(why)
		}
	}
}
