package ranks_test

import (
	"cmp"
	"math"
	"slices"
	"strconv"
	"strings"
	"testing"

	"tabor/api"
	"tabor/ranks"
)

func m(name string, score int64) api.Rank { return api.Rank{Name: name, Score: score} }

func order(a, b api.Rank) int {
	return cmp.Or(cmp.Compare(a.Score, b.Score), strings.Compare(a.Name, b.Name))
}

func all(r *ranks.Ranks) []api.Rank { return r.At(0, math.MaxInt) }

func is(t *testing.T, got []api.Rank, want ...api.Rank) {
	t.Helper()
	if !slices.Equal(got, want) {
		t.Errorf("%v, not %v", got, want)
	}
}

// holds asks a set all that it tells, against its members in order.
func holds(t *testing.T, r *ranks.Ranks, want []api.Rank) {
	t.Helper()
	is(t, all(r), want...)
	is(t, r.Between(math.MinInt64, math.MaxInt64), want...)
	if r.Len() != len(want) {
		t.Error("Len", r.Len())
	}
	for i, x := range want {
		if rank, ok := r.Rank(x.Name); rank != i || !ok {
			t.Fatal("Rank", x, rank, ok)
		}
		if score, ok := r.Score(x.Name); score != x.Score || !ok {
			t.Fatal("Score", x, score, ok)
		}
		is(t, r.At(i, i+1), x)
	}
	n := 0
	for i, x := range r.All() {
		if i != n || x != want[i] {
			t.Fatal("All", i, x)
		}
		n++
	}
	if n != len(want) {
		t.Error("All", n)
	}
}

func TestExample(t *testing.T) {
	r, e := ranks.Of([]api.Rank{m("b", 2), m("a", 2), m("c", 1)})
	if e != api.OK {
		t.Fatal(e)
	}
	is(t, r.At(0, 9), m("c", 1), m("a", 2), m("b", 2))
	if n, ok := r.Rank("b"); n != 2 || !ok {
		t.Error(n, ok)
	}
	if n, ok := r.Rank("x"); n != 0 || ok {
		t.Error(n, ok)
	}
	is(t, r.Between(2, 2), m("a", 2), m("b", 2))
	is(t, r.At(1, 2), m("a", 2))
	is(t, r.At(-5, 1), m("c", 1))
	if fresh, e := r.Set("c", 7, 3); fresh || e != api.OK {
		t.Error(fresh, e)
	}
	is(t, r.At(0, 9), m("a", 2), m("b", 2), m("c", 7))
	if r, e := ranks.Of([]api.Rank{m("a", 1), m("a", 2)}); r != nil || e != api.ErrArg {
		t.Error(e)
	}
}

func TestOf(t *testing.T) {
	long := strings.Repeat("x", api.MaxText)
	many := make([]api.Rank, api.MaxItems)
	for i := range many {
		many[i] = m(strconv.Itoa(i), int64(i%100))
	}
	for i, c := range []struct {
		l    []api.Rank
		want api.Errno
	}{
		{nil, api.OK}, {[]api.Rank{m("", 0)}, api.OK}, {[]api.Rank{m(long, 0)}, api.OK}, {many, api.OK},
		{[]api.Rank{m(long+"x", 0)}, api.ErrLong}, {[]api.Rank{m("a", 0), m("a", 0), m(long+"x", 0)}, api.ErrLong},
		{append(slices.Clone(many), m("0", 0)), api.ErrLong}, {append(slices.Clone(many[1:]), m("1", 5)), api.ErrArg}, {[]api.Rank{m("a", 1), m("b", 1), m("a", 1)}, api.ErrArg},
	} {
		r, e := ranks.Of(c.l, 1, 2, 3)
		if e != c.want || (r == nil) != (e != api.OK) || e == api.OK && r.Len() != len(c.l) {
			t.Error(i, e)
		}
	}
	r, _ := ranks.Of(many)
	if fresh, e := r.Set("new", 1, 1); fresh || e != api.ErrLong || r.Len() != api.MaxItems {
		t.Error("one more", fresh, e)
	}
	if fresh, e := r.Set("7", -1, 1); fresh || e != api.OK {
		t.Error("one that is there", fresh, e)
	}
	is(t, r.At(0, 1), m("7", -1))
	l := []api.Rank{m("b", 2), m("a", 1)}
	s, _ := ranks.Of(l)
	is(t, l, m("b", 2), m("a", 1))
	l[0].Name = "z"
	is(t, all(s), m("a", 1), m("b", 2))
	all(s)[0].Name = "y"
	is(t, all(s), m("a", 1), m("b", 2))
}

func TestAgainstModel(t *testing.T) {
	for _, coin := range []func(i int) int{func(int) int { return 0 }, func(i int) int { return i }, func(i int) int { return -1 << (i % 63) }} {
		r, _ := ranks.Of(nil)
		model := map[string]int64{}
		x := uint32(1)
		for i := range 1200 {
			x = x*1664525 + 1013904223
			name := strconv.Itoa(int(x>>20) % 60)
			score := int64(x>>12%32)%7 - 3
			if i%97 == 0 {
				score = math.MinInt64 + int64(i%2)*math.MaxInt64
			}
			_, had := model[name]
			if x>>9%3 == 0 {
				if r.Drop(name) != had {
					t.Fatal("Drop", name)
				}
				delete(model, name)
			} else {
				if fresh, e := r.Set(name, score, coin(i)); fresh == had || e != api.OK {
					t.Fatal("Set", name, fresh, e)
				}
				model[name] = score
			}
			if i%10 != 0 {
				continue
			}
			var want []api.Rank
			for n, s := range model {
				want = append(want, m(n, s))
			}
			slices.SortFunc(want, order)
			holds(t, r, want)
			for a := int64(-4); a < 5; a++ {
				for b := int64(-4); b < 5; b++ {
					var part []api.Rank
					for _, x := range want {
						if x.Score >= a && x.Score <= b {
							part = append(part, x)
						}
					}
					is(t, r.Between(a, b), part...)
				}
			}
		}
	}
}

func TestOrderOfMembers(t *testing.T) {
	l := []api.Rank{m("a", 3), m("b", 3), m("", 3), m("\xff", -1), m("c", math.MinInt64), m("d", math.MaxInt64), m("e", 0)}
	want := slices.Clone(l)
	slices.SortFunc(want, order)
	for turn := range len(l) {
		r, e := ranks.Of(append(slices.Clone(l[turn:]), l[:turn]...), 5, turn, -turn, math.MaxInt, math.MinInt)
		if e != api.OK {
			t.Fatal(e)
		}
		holds(t, r, want)
	}
}

func TestAt(t *testing.T) {
	r, _ := ranks.Of([]api.Rank{m("a", 1), m("b", 2), m("c", 3)})
	for i, c := range []struct {
		from, until int
		want        string
	}{{0, 3, "abc"}, {0, 2, "ab"}, {1, 3, "bc"}, {2, 2, ""}, {2, 1, ""}, {3, 9, ""}, {-9, 2, "ab"}, {math.MinInt, math.MaxInt, "abc"}, {math.MaxInt, math.MinInt, ""}, {-3, 0, ""}} {
		got := ""
		for _, x := range r.At(c.from, c.until) {
			got += x.Name
		}
		if got != c.want {
			t.Error(i, got)
		}
	}
	if r.Between(3, 1) != nil || r.Between(4, 9) != nil {
		t.Error("Between without members")
	}
}

func TestAll(t *testing.T) {
	r, _ := ranks.Of([]api.Rank{m("a", 1), m("b", 2), m("c", 3)})
	seq := r.All()
	r.Drop("b")
	r.Set("d", 0, 0)
	for range 2 {
		got := ""
		for i, x := range seq {
			got += strconv.Itoa(i) + x.Name
		}
		if got != "0a1b2c" {
			t.Error(got)
		}
		for range seq {
			break
		}
	}
}

func TestCopy(t *testing.T) {
	r, _ := ranks.Of([]api.Rank{m("a", 1), m("b", 2)})
	c := r.Copy()
	r.Set("a", 9, 0)
	c.Drop("b")
	c.Set("x", 5, 5)
	holds(t, r, []api.Rank{m("b", 2), m("a", 9)})
	holds(t, c, []api.Rank{m("a", 1), m("x", 5)})
}

func TestSetAndDrop(t *testing.T) {
	r, _ := ranks.Of([]api.Rank{m("a", 1), m("b", 2)})
	before := all(r)
	if fresh, e := r.Set("c", 1, 8); !fresh || e != api.OK || !r.Drop("c") || r.Drop("c") {
		t.Error("Set, Drop")
	}
	holds(t, r, before)
	if fresh, e := r.Set(strings.Repeat("x", api.MaxText+1), 1, 8); fresh || e != api.ErrLong {
		t.Error(fresh, e)
	}
	if _, ok := r.Score("c"); ok {
		t.Error("Score of one that is gone")
	}
	holds(t, r, before)
	long := strings.Repeat("x", api.MaxText)
	if fresh, e := r.Set(long, 1, 8); !fresh || e != api.OK || !r.Drop(long) {
		t.Error("the longest name", fresh, e)
	}
	holds(t, r, before)
}

func TestNil(t *testing.T) {
	for _, r := range []*ranks.Ranks{nil, {}} {
		if fresh, e := r.Set("a", 1, 1); fresh || e != api.ErrNil {
			t.Error(fresh, e)
		}
		_, e := r.Set(strings.Repeat("x", api.MaxText+1), 1, 1)
		_, a := r.Score("a")
		_, b := r.Rank("a")
		if e != api.ErrNil || a || b || r.Drop("a") || r.Len() != 0 || r.At(0, 9) != nil || r.Between(0, 9) != nil || r.Copy() != nil {
			t.Error("zero answers")
		}
		for range r.All() {
			t.Error("All of none")
		}
	}
}
