package keys_test

import (
	"math"
	"slices"
	"strconv"
	"strings"
	"testing"

	"tabor/api"
	"tabor/keys"
)

func text(key, s string) api.Effect                  { return api.Effect{Op: api.EffText, Key: key, Text: s} }
func until(key string, n int64) api.Effect           { return api.Effect{Op: api.EffUntil, Key: key, Int: n} }
func plain(op api.EffectOp, key string) api.Effect   { return api.Effect{Op: op, Key: key} }
func item(op api.EffectOp, key, s string) api.Effect { return api.Effect{Op: op, Key: key, Text: s} }
func named(op api.EffectOp, key, name string) api.Effect {
	return api.Effect{Op: op, Key: key, Name: name}
}
func field(key, name, s string) api.Effect {
	return api.Effect{Op: api.EffHash, Key: key, Name: name, Text: s}
}
func at(key string, n int64, s string) api.Effect {
	return api.Effect{Op: api.EffAt, Key: key, Int: n, Text: s}
}
func rank(key, name string, n int64) api.Effect {
	return api.Effect{Op: api.EffRank, Key: key, Name: name, Int: n}
}

func textThing(s string) api.Thing   { return api.Thing{Kind: api.ThingText, Text: s} }
func list(l ...string) api.Thing     { return api.Thing{Kind: api.ThingList, List: l} }
func set(l ...string) api.Thing      { return api.Thing{Kind: api.ThingSet, List: l} }
func hash(l ...api.Pair) api.Thing   { return api.Thing{Kind: api.ThingHash, Pairs: l} }
func ranked(l ...api.Rank) api.Thing { return api.Thing{Kind: api.ThingRanks, Ranks: l} }
func timed(t api.Thing, n int64) api.Thing {
	t.HasUntil, t.Until = true, n
	return t
}

func made(t *testing.T, l ...api.Effect) *keys.Keys {
	t.Helper()
	k := keys.New()
	if n, e := k.Apply(l...); n != len(l) || e != api.OK {
		t.Fatal(n, e)
	}
	return k
}

func is(t *testing.T, k *keys.Keys, key string, want api.Thing) {
	t.Helper()
	got, ok := k.Look(key)
	if ok != (want.Kind != api.ThingNone) || !keys.SameThing(got, want) {
		t.Errorf("%s: %v %v, not %v", key, got, ok, want)
	}
}

func TestOps(t *testing.T) {
	for i, c := range []struct {
		l    []api.Effect
		want api.Thing
	}{
		{[]api.Effect{text("k", "x")}, textThing("x")},
		{[]api.Effect{text("k", "")}, textThing("")},
		{[]api.Effect{text("k", "x"), until("k", 5)}, timed(textThing("x"), 5)},
		{[]api.Effect{text("k", "x"), until("k", 5), until("k", -7)}, timed(textThing("x"), -7)},
		{[]api.Effect{text("k", "x"), until("k", 5), text("k", "y")}, textThing("y")},
		{[]api.Effect{text("k", "x"), until("k", 5), plain(api.EffKeep, "k")}, textThing("x")},
		{[]api.Effect{text("k", "x"), plain(api.EffKeep, "k")}, textThing("x")},
		{[]api.Effect{text("k", "x"), plain(api.EffDrop, "k")}, api.Thing{}},
		{[]api.Effect{item(api.EffTail, "k", "x"), until("k", 5), text("k", "y")}, textThing("y")},
		{[]api.Effect{field("k", "b", "1"), field("k", "a", "2"), field("k", "b", "3")}, hash(api.Pair{Name: "a", Text: "2"}, api.Pair{Name: "b", Text: "3"})},
		{[]api.Effect{field("k", "b", "1"), until("k", 3), field("k", "", ""), named(api.EffUnhash, "k", "b")}, timed(hash(api.Pair{}), 3)},
		{[]api.Effect{field("k", "b", "1"), named(api.EffUnhash, "k", "b")}, api.Thing{}},
		{[]api.Effect{item(api.EffTail, "k", "a"), item(api.EffTail, "k", "b"), item(api.EffHead, "k", "c"), item(api.EffHead, "k", "d")}, list("d", "c", "a", "b")},
		{[]api.Effect{item(api.EffHead, "k", "a"), item(api.EffTail, "k", "b"), plain(api.EffUnhead, "k")}, list("b")},
		{[]api.Effect{item(api.EffHead, "k", "a"), item(api.EffTail, "k", "b"), plain(api.EffUntail, "k")}, list("a")},
		{[]api.Effect{item(api.EffTail, "k", "x"), item(api.EffHead, "k", "y"), plain(api.EffUnhead, "k"), plain(api.EffUnhead, "k")}, api.Thing{}},
		{[]api.Effect{item(api.EffTail, "k", "x"), until("k", 1), plain(api.EffUntail, "k"), item(api.EffTail, "k", "y")}, list("y")},
		{[]api.Effect{item(api.EffTail, "k", "a"), item(api.EffTail, "k", "b"), item(api.EffHead, "k", "z"), at("k", 0, "x"), at("k", 2, "y")}, list("x", "a", "y")},
		{[]api.Effect{named(api.EffAdd, "k", "b"), named(api.EffAdd, "k", "a"), named(api.EffAdd, "k", "b"), named(api.EffAdd, "k", "c")}, set("a", "b", "c")},
		{[]api.Effect{named(api.EffAdd, "k", "b"), named(api.EffAdd, "k", "a"), named(api.EffRemove, "k", "b")}, set("a")},
		{[]api.Effect{named(api.EffAdd, "k", "b"), named(api.EffRemove, "k", "b")}, api.Thing{}},
		{[]api.Effect{rank("k", "b", 1), rank("k", "a", 1), rank("k", "c", -5)}, ranked(api.Rank{Name: "c", Score: -5}, api.Rank{Name: "a", Score: 1}, api.Rank{Name: "b", Score: 1})},
		{[]api.Effect{rank("k", "b", 1), rank("k", "a", 1), rank("k", "a", 7), rank("k", "b", 1)}, ranked(api.Rank{Name: "b", Score: 1}, api.Rank{Name: "a", Score: 7})},
		{[]api.Effect{rank("k", "b", 1), rank("k", "a", 2), named(api.EffUnrank, "k", "b")}, ranked(api.Rank{Name: "a", Score: 2})},
		{[]api.Effect{rank("k", "b", 1), named(api.EffUnrank, "k", "b")}, api.Thing{}},
	} {
		k := made(t, append([]api.Effect{text("other", "o")}, c.l...)...)
		is(t, k, "k", c.want)
		is(t, k, "other", textThing("o"))
		if t.Failed() {
			t.Fatal("row", i)
		}
		cut := keys.New()
		cut.Apply(text("other", "o"))
		for _, e := range c.l {
			if n, e := cut.Apply(e); n != 1 || e != api.OK {
				t.Error(i, n, e)
			}
		}
		if !cut.Same(k) {
			t.Error("effects one by one", i)
		}
	}
}

func TestRefused(t *testing.T) {
	long := strings.Repeat("x", api.MaxText+1)
	all := []api.Effect{text("t", "x"), field("h", "f", "v"), item(api.EffTail, "l", "a"), item(api.EffTail, "l", "b"), named(api.EffAdd, "s", "m"), rank("r", "m", 1)}
	rows := []struct {
		e    api.Effect
		want api.Errno
	}{
		{api.Effect{}, api.ErrArg}, {api.Effect{Op: -1, Key: "t"}, api.ErrArg}, {api.Effect{Op: 16, Key: "t"}, api.ErrArg},
		{api.Effect{Op: api.EffDrop, Key: "t", Int: 1}, api.ErrArg}, {api.Effect{Op: api.EffDrop, Key: "t", Name: "x"}, api.ErrArg}, {api.Effect{Op: api.EffDrop, Key: "t", Text: "x"}, api.ErrArg},
		{api.Effect{Op: api.EffText, Key: "t", Int: 1}, api.ErrArg}, {api.Effect{Op: api.EffText, Key: "t", Name: "x"}, api.ErrArg}, {api.Effect{Op: api.EffUntil, Key: "t", Text: "x"}, api.ErrArg},
		{api.Effect{Op: api.EffUntil, Key: "t", Name: "x"}, api.ErrArg}, {api.Effect{Op: api.EffKeep, Key: "t", Int: 1}, api.ErrArg}, {api.Effect{Op: api.EffHash, Key: "h", Int: 1}, api.ErrArg},
		{api.Effect{Op: api.EffUnhash, Key: "h", Name: "f", Text: "x"}, api.ErrArg}, {api.Effect{Op: api.EffHead, Key: "l", Name: "f"}, api.ErrArg}, {api.Effect{Op: api.EffTail, Key: "l", Int: 1}, api.ErrArg},
		{api.Effect{Op: api.EffUnhead, Key: "l", Text: "a"}, api.ErrArg}, {api.Effect{Op: api.EffUntail, Key: "l", Int: 1}, api.ErrArg}, {api.Effect{Op: api.EffAt, Key: "l", Name: "a"}, api.ErrArg},
		{api.Effect{Op: api.EffAdd, Key: "s", Text: "a"}, api.ErrArg}, {api.Effect{Op: api.EffRemove, Key: "s", Int: 1}, api.ErrArg}, {api.Effect{Op: api.EffRank, Key: "r", Text: "a"}, api.ErrArg}, {api.Effect{Op: api.EffUnrank, Key: "r", Name: "m", Int: 1}, api.ErrArg},
		{text(long, ""), api.ErrLong}, {text("t", long), api.ErrLong}, {field("h", long, ""), api.ErrLong}, {plain(api.EffDrop, long), api.ErrLong}, {named(api.EffRemove, "none", long), api.ErrLong}, {item(api.EffTail, "t", long), api.ErrLong},
		{api.Effect{Op: api.EffDrop, Key: long, Int: 1}, api.ErrArg},
		{plain(api.EffDrop, "none"), api.ErrNone}, {until("none", 1), api.ErrNone}, {plain(api.EffKeep, "none"), api.ErrNone}, {named(api.EffUnhash, "none", "f"), api.ErrNone}, {plain(api.EffUnhead, "none"), api.ErrNone}, {plain(api.EffUntail, "none"), api.ErrNone},
		{at("none", -1, ""), api.ErrNone}, {named(api.EffRemove, "none", "m"), api.ErrNone}, {named(api.EffUnrank, "none", "m"), api.ErrNone},
		{field("t", "f", "v"), api.ErrKind}, {named(api.EffUnhash, "l", "f"), api.ErrKind}, {item(api.EffHead, "h", "x"), api.ErrKind}, {item(api.EffTail, "s", "x"), api.ErrKind}, {plain(api.EffUnhead, "s"), api.ErrKind}, {plain(api.EffUntail, "t"), api.ErrKind},
		{at("s", 0, "x"), api.ErrKind}, {at("t", 9, "x"), api.ErrKind}, {named(api.EffAdd, "l", "x"), api.ErrKind}, {named(api.EffRemove, "r", "m"), api.ErrKind}, {rank("s", "m", 1), api.ErrKind}, {named(api.EffUnrank, "s", "m"), api.ErrKind}, {rank("h", "f", 1), api.ErrKind},
		{named(api.EffUnhash, "h", "x"), api.ErrNone}, {named(api.EffRemove, "s", "x"), api.ErrNone}, {named(api.EffUnrank, "r", "x"), api.ErrNone},
		{at("l", 2, "x"), api.ErrRange}, {at("l", -1, "x"), api.ErrRange}, {at("l", math.MaxInt64, "x"), api.ErrRange}, {at("l", math.MinInt64, "x"), api.ErrRange},
	}
	k := made(t, all...)
	before := k.Copy()
	for i, c := range rows {
		if n, e := k.Apply(c.e); n != 0 || e != c.want {
			t.Error(i, n, e)
		}
		if !k.Same(before) {
			t.Fatal("changed by", i)
		}
		if n, e := k.Copy().Apply(text("new", ""), c.e, text("newer", "")); n != 1 || e != c.want {
			t.Error("second", i, n, e)
		}
	}
	if n, e := k.Apply(named(api.EffAdd, "s2", "m"), field("s2", "f", "v")); n != 1 || e != api.ErrKind {
		t.Error(n, e)
	}
	is(t, k, "s2", set("m"))
	if n, e := k.Apply(); n != 0 || e != api.OK {
		t.Error(n, e)
	}
	most := long[1:]
	if n, e := k.Apply(text(most, most), field("h", most, most), named(api.EffAdd, "s", most), rank("r", most, 1), item(api.EffHead, "l", most), at("l", 0, most), plain(api.EffDrop, most)); n != 7 || e != api.OK {
		t.Error("the longest texts", n, e)
	}
}

func TestItems(t *testing.T) {
	k := keys.New()
	for i := range api.MaxItems {
		s := strconv.Itoa(i)
		if n, e := k.Apply(item(api.EffTail, "l", s), field("h", s, ""), named(api.EffAdd, "s", s), rank("r", s, 1)); n != 4 || e != api.OK {
			t.Fatal(i, n, e)
		}
	}
	for i, e := range []api.Effect{item(api.EffTail, "l", "x"), item(api.EffHead, "l", "x"), field("h", "x", ""), named(api.EffAdd, "s", "x"), rank("r", "x", 1)} {
		if n, e := k.Apply(e); n != 0 || e != api.ErrLong {
			t.Error(i, n, e)
		}
	}
	if n, e := k.Apply(field("h", "7", "y"), named(api.EffAdd, "s", "7"), rank("r", "7", 3), at("l", api.MaxItems-1, "z")); n != 4 || e != api.OK {
		t.Error(n, e)
	}
	for _, key := range []string{"l", "h", "s", "r"} {
		if x, ok := k.Look(key); !ok || !keys.Check(x) {
			t.Error("Check", key)
		}
	}
}

func TestKeysBound(t *testing.T) {
	k := keys.New()
	for i := range api.MaxKeys {
		if n, e := k.Apply(text(strconv.Itoa(i), "")); n != 1 || e != api.OK {
			t.Fatal(i, e)
		}
	}
	for i, e := range []api.Effect{text("x", ""), item(api.EffTail, "x", ""), field("x", "", ""), named(api.EffAdd, "x", ""), rank("x", "", 0)} {
		if n, e := k.Apply(e); n != 0 || e != api.ErrLong {
			t.Error(i, n, e)
		}
	}
	if n, e := k.Apply(text("7", "y"), plain(api.EffDrop, "8"), text("x", "")); n != 3 || e != api.OK {
		t.Error(n, e)
	}
	var all []api.Entry
	for key, thing := range k.All() {
		all = append(all, api.Entry{Key: key, Thing: thing})
	}
	again, e := keys.Of(all...)
	if e != api.OK || !again.Same(k) || len(all) != api.MaxKeys {
		t.Error(e)
	}
	if k, e := keys.Of(append(all, api.Entry{Key: "y", Thing: textThing("")})...); k != nil || e != api.ErrLong {
		t.Error(e)
	}
	if k, e := keys.Of(append(all, api.Entry{Key: "x", Thing: textThing("")})...); k != nil || e != api.ErrArg {
		t.Error(e)
	}
}

func TestTimes(t *testing.T) {
	k := made(t, text("b", "x"), until("b", 5), text("a", "y"), item(api.EffTail, "c", "z"), until("c", math.MinInt64), text("d", ""), until("d", math.MaxInt64))
	for now, want := range map[int64]string{4: "a b d", 5: "a d", math.MinInt64: "a b d", math.MaxInt64: "a", -1: "a b d"} {
		if got := strings.Join(k.Names(now), " "); got != want || k.Size(now) != len(strings.Fields(want)) {
			t.Error(now, got, k.Size(now))
		}
	}
	if x, ok := k.Get("b", 4); !ok || !keys.SameThing(x, timed(textThing("x"), 5)) {
		t.Error(x, ok)
	}
	if x, ok := k.Get("b", 5); ok || !keys.SameThing(x, api.Thing{}) {
		t.Error(x, ok)
	}
	if x, ok := k.Get("none", 5); ok || !keys.SameThing(x, api.Thing{}) {
		t.Error(x, ok)
	}
	is(t, k, "b", timed(textThing("x"), 5))
	is(t, k, "c", timed(list("z"), math.MinInt64))
	for range 2 {
		got := ""
		for key, x := range k.All() {
			if y, _ := k.Look(key); !keys.SameThing(x, y) {
				t.Error(key)
			}
			got += key
		}
		if got != "abcd" {
			t.Error(got)
		}
		for range k.All() {
			break
		}
	}
}

func TestOfAndCheck(t *testing.T) {
	long := strings.Repeat("x", api.MaxText)
	p := func(name, s string) api.Pair { return api.Pair{Name: name, Text: s} }
	r := func(name string, n int64) api.Rank { return api.Rank{Name: name, Score: n} }
	good := []api.Thing{
		textThing(""), textThing(long), timed(textThing("x"), 0), timed(textThing("x"), -3), hash(p("", "")), hash(p("a", ""), p("b", "")), list("b", "a", "b"), set("a", "b"), set(""),
		ranked(r("b", 1), r("a", 2)), ranked(r("a", 1), r("b", 1)), timed(ranked(r("", math.MinInt64)), 8), list(make([]string, api.MaxItems)...), hash(p(long, long)), set(long), ranked(r(long, 0)),
	}
	for i, x := range good {
		k, e := keys.Of(api.Entry{Key: "k", Thing: x})
		if !keys.Check(x) || e != api.OK {
			t.Error(i, e)
			continue
		}
		is(t, k, "k", x)
	}
	bad := []api.Thing{
		{}, {Kind: -1}, {Kind: 6}, {Kind: 6, List: []string{"a"}}, {Kind: api.ThingText, Until: 1}, textThing(long + "x"), {Kind: api.ThingText, List: []string{"a"}}, {Kind: api.ThingText, Pairs: []api.Pair{{}}}, {Kind: api.ThingText, Ranks: []api.Rank{{}}},
		hash(), list(), set(), ranked(), hash(p("a", ""), p("a", "")), hash(p("b", ""), p("a", "")), set("b", "a"), set("a", "a"), ranked(r("a", 2), r("b", 1)), ranked(r("b", 1), r("a", 1)), ranked(r("a", 1), r("a", 1)), ranked(r("a", 1), r("a", 2)),
		hash(p(long+"x", "")), hash(p("", long+"x")), list(long + "x"), set(long + "x"), ranked(r(long+"x", 0)), list(make([]string, api.MaxItems+1)...),
		{Kind: api.ThingList, List: []string{"a"}, Text: "x"}, {Kind: api.ThingHash, Pairs: []api.Pair{{}}, List: []string{"a"}}, {Kind: api.ThingSet, List: []string{"a"}, Ranks: []api.Rank{{}}}, {Kind: api.ThingRanks, Ranks: []api.Rank{{}}, Pairs: []api.Pair{{}}},
	}
	for i, x := range bad {
		if k, e := keys.Of(api.Entry{Key: "k", Thing: x}); keys.Check(x) || k != nil || e != api.ErrArg {
			t.Error(i, e)
		}
	}
	fine := api.Entry{Key: "k", Thing: textThing("x")}
	for i, l := range [][]api.Entry{{fine, fine}, {{Key: long + "x", Thing: textThing("x")}}, {fine, {Key: "j"}}} {
		if k, e := keys.Of(l...); k != nil || e != api.ErrArg {
			t.Error(i, e)
		}
	}
	if k, e := keys.Of(); e != api.OK || !k.Same(keys.New()) {
		t.Error(e)
	}
	if k, e := keys.Of(api.Entry{Key: long, Thing: textThing("x")}); e != api.OK || k.Size(0) != 1 {
		t.Error(e)
	}
}

func TestSame(t *testing.T) {
	var all []*keys.Keys
	for _, l := range [][]api.Effect{nil, {text("a", "")}, {text("a", "x")}, {text("b", "x")}, {text("a", "x"), until("a", 0)}, {text("a", "x"), until("a", 1)}, {text("a", "x"), text("b", "x")}, {item(api.EffTail, "a", "x")}, {named(api.EffAdd, "a", "x")}, {field("a", "x", "")}, {field("a", "x", "y")}, {rank("a", "x", 0)}, {rank("a", "x", 1)}} {
		all = append(all, made(t, l...))
	}
	for i, a := range all {
		for j, b := range all {
			if a.Same(b) != (i == j) || a.Same(b.Copy()) != (i == j) {
				t.Error(i, j)
			}
			x, _ := a.Look("a")
			y, _ := b.Look("a")
			if i == j && !keys.SameThing(x, y) || i != j && i > 3 && j > 6 && keys.SameThing(x, y) {
				t.Error("SameThing", i, j)
			}
		}
		if a.Same(nil) || (*keys.Keys)(nil).Same(a) || a.Same(&keys.Keys{}) {
			t.Error("nil", i)
		}
	}
}

func TestCopy(t *testing.T) {
	l := []api.Effect{text("t", "x"), until("t", 5), field("h", "f", "v"), item(api.EffTail, "l", "a"), named(api.EffAdd, "s", "m"), rank("r", "m", 1)}
	more := []api.Effect{text("t", "y"), field("h", "g", "v"), field("h", "f", "w"), item(api.EffHead, "l", "b"), item(api.EffTail, "l", "c"), at("l", 1, "z"), named(api.EffAdd, "s", "a"), rank("r", "a", 5), rank("r", "m", 7), until("l", 3), plain(api.EffUnhead, "l")}
	was := made(t, l...)
	will := made(t, append(slices.Clone(l), more...)...)
	for turn := range 3 {
		k := made(t, l...)
		c := k.Copy()
		d := c.Copy()
		changed, others := c, []*keys.Keys{k, d}
		if turn == 1 {
			changed, others = k, []*keys.Keys{c, d}
		}
		if turn == 2 {
			changed, others = d, []*keys.Keys{k, c}
		}
		if n, e := changed.Apply(more...); n != len(more) || e != api.OK {
			t.Fatal(n, e)
		}
		if !changed.Same(will) || !others[0].Same(was) || !others[1].Same(was) {
			t.Error("turn", turn)
		}
	}
}

func TestMemory(t *testing.T) {
	k := made(t, field("h", "f", "v"), item(api.EffTail, "l", "a"), named(api.EffAdd, "s", "m"), rank("r", "m", 1))
	was := k.Copy()
	for _, key := range []string{"h", "l", "s", "r"} {
		a, _ := k.Look(key)
		b, _ := k.Get(key, 0)
		for _, x := range []api.Thing{a, b} {
			for i := range x.Pairs {
				x.Pairs[i].Text = "changed"
			}
			for i := range x.List {
				x.List[i] = "changed"
			}
			for i := range x.Ranks {
				x.Ranks[i].Name = "changed"
			}
		}
	}
	if !k.Same(was) {
		t.Error("an answer shares memory")
	}
	again, _ := keys.Of(api.Entry{Key: "r", Thing: ranked(api.Rank{Name: "b", Score: 1}, api.Rank{Name: "a", Score: 2})})
	if n, e := again.Apply(rank("r", "b", 5), named(api.EffUnrank, "r", "a"), rank("r", "c", 0)); n != 3 || e != api.OK {
		t.Error(n, e)
	}
	is(t, again, "r", ranked(api.Rank{Name: "c"}, api.Rank{Name: "b", Score: 5}))
	l := []string{"a", "b"}
	o, _ := keys.Of(api.Entry{Key: "k", Thing: set(l...)})
	l[0] = "z"
	is(t, o, "k", set("a", "b"))
}

func TestList(t *testing.T) {
	k := keys.New()
	var model []string
	x := uint32(3)
	for i := range 5000 {
		x = x*1664525 + 1013904223
		s := strconv.Itoa(i)
		e := []api.Effect{item(api.EffTail, "l", s), item(api.EffHead, "l", s), plain(api.EffUnhead, "l"), plain(api.EffUntail, "l"), item(api.EffTail, "l", s)}[x>>16%5]
		n, err := k.Apply(e)
		if (err == api.OK) != (n == 1) || n == 0 && len(model) > 0 {
			t.Fatal(i, err)
		}
		switch {
		case n == 0:
		case e.Op == api.EffTail:
			model = append(model, s)
		case e.Op == api.EffHead:
			model = append([]string{s}, model...)
		case e.Op == api.EffUnhead:
			model = model[1:]
		default:
			model = model[:len(model)-1]
		}
		got, ok := k.Look("l")
		if ok != (len(model) > 0) || !slices.Equal(got.List, model) {
			t.Fatal("step", i)
		}
	}
}

func TestNil(t *testing.T) {
	for _, k := range []*keys.Keys{nil, {}} {
		if n, e := k.Apply(api.Effect{}); n != 0 || e != api.ErrNil {
			t.Error(n, e)
		}
		if n, e := k.Apply(); n != 0 || e != api.ErrNil {
			t.Error(n, e)
		}
		_, a := k.Look("a")
		_, b := k.Get("a", 0)
		if a || b || k.Size(0) != 0 || k.Names(0) != nil || k.Copy() != nil || !k.Same(nil) || k.Same(keys.New()) {
			t.Error("zero answers")
		}
		for range k.All() {
			t.Error("All of none")
		}
	}
}
