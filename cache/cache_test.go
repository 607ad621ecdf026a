package cache_test

import (
	"slices"
	"strconv"
	"strings"
	"testing"

	"tabor/api"
	"tabor/cache"
	"tabor/sums"
)

func put(t *testing.T, c *cache.Cache, s string) string {
	t.Helper()
	d, e := c.Put(s)
	if e != api.OK || d != sums.Digest([]byte(s)) {
		t.Fatalf("%.40q: %s %v", s, d, e)
	}
	return d
}

func TestExample(t *testing.T) {
	c := cache.New()
	d := put(t, c, "abc")
	if d != "a9993e364706816aba3e25717850c26c9cd0d89d" {
		t.Error(d)
	}
	if s, ok := c.Get(d); s != "abc" || !ok {
		t.Error(s, ok)
	}
	if s, ok := c.Get("abc"); s != "" || ok {
		t.Error(s, ok)
	}
	if c.Load("f", "x") != api.OK || c.Load("f", "y") != api.OK {
		t.Error("Load")
	}
	if s, ok := c.Named("f"); s != "y" || !ok {
		t.Error(s, ok)
	}
	if !slices.Equal(c.Names(), []string{"f"}) || c.Len() != 2 || c.Load("a-b", "x") != api.ErrArg || c.Unload("g") != api.ErrNone {
		t.Error(c.Names(), c.Len())
	}
	c.Flush()
	if _, ok := c.Get(d); ok || c.Len() != 1 {
		t.Error("Flush")
	}
}

func TestPut(t *testing.T) {
	c := cache.New()
	for range 2 {
		for _, s := range []string{"", "a", "\x00\xff", "a long script"} {
			d := put(t, c, s)
			if got, ok := c.Get(d); got != s || !ok {
				t.Error(s, got, ok)
			}
			if got, ok := c.Get(strings.ToUpper(d)); got != "" || ok {
				t.Error("in capital letters", got)
			}
			if got, ok := c.Named(d); got != "" || ok {
				t.Error("named", got)
			}
		}
	}
	if c.Len() != 4 || c.Names() != nil {
		t.Error(c.Len())
	}
	most := strings.Repeat("x", api.MaxText)
	put(t, c, most)
	if d, e := c.Put(most + "x"); d != "" || e != api.ErrLong {
		t.Error(d, e)
	}
}

func TestNamed(t *testing.T) {
	c := cache.New()
	most := strings.Repeat("x", api.MaxText)
	for i, r := range []struct {
		name, script string
		want         api.Errno
	}{{"b", "1", api.OK}, {"a", "2", api.OK}, {"A", "3", api.OK}, {"_", "", api.OK}, {"9", most, api.OK}, {"b", "4", api.OK}, {strings.Repeat("n", 64), "5", api.OK}, {"", "x", api.ErrArg}, {strings.Repeat("n", 65), "x", api.ErrArg}, {"a b", most + "x", api.ErrArg}, {"c", most + "x", api.ErrLong}, {"a", most + "x", api.ErrLong}} {
		if e := c.Load(r.name, r.script); e != r.want {
			t.Error(i, e)
		}
		if s, ok := c.Named(r.name); r.want == api.OK && (s != r.script || !ok) {
			t.Error(i, ok)
		}
	}
	if got := c.Names(); !slices.Equal(got, []string{"9", "A", "_", "a", "b", strings.Repeat("n", 64)}) {
		t.Error(got)
	}
	if s, ok := c.Named("a"); s != "2" || !ok {
		t.Error(s, ok)
	}
	if s, ok := c.Named("c"); s != "" || ok {
		t.Error(s, ok)
	}
	for i, r := range []struct {
		name string
		want api.Errno
	}{{"b", api.OK}, {"b", api.ErrNone}, {"", api.ErrArg}, {"a-", api.ErrArg}, {"zz", api.ErrNone}} {
		if e := c.Unload(r.name); e != r.want {
			t.Error(i, e)
		}
	}
	if _, ok := c.Named("b"); ok || c.Len() != 5 {
		t.Error(c.Len())
	}
	for _, name := range []string{"a", "Z", "_", "0", "aZ_09", strings.Repeat("x", 64)} {
		if !cache.Name(name) {
			t.Error(name)
		}
	}
	for _, name := range []string{"", "a-b", "a.b", " a", "a\x00", "\xc3\xa9", strings.Repeat("x", 65), "@", "[", "`", "{", "/", ":"} {
		if cache.Name(name) {
			t.Errorf("%q", name)
		}
	}
}

func TestItems(t *testing.T) {
	c := cache.New()
	for i := range api.MaxItems - 1 {
		put(t, c, strconv.Itoa(i))
	}
	if c.Load("a", "1") != api.OK || c.Len() != api.MaxItems || c.Load("b", "1") != api.ErrLong || c.Load("a", "2") != api.OK {
		t.Error("Load at the bound")
	}
	if d, e := c.Put("new"); d != "" || e != api.ErrLong {
		t.Error(d, e)
	}
	put(t, c, "7")
	if c.Unload("a") != api.OK {
		t.Error("Unload")
	}
	put(t, c, "new")
	if c.Load("a", "1") != api.ErrLong {
		t.Error("Load at the bound")
	}
	c.Flush()
	if c.Len() != 0 || c.Load("a", "1") != api.OK {
		t.Error("Flush")
	}
}

func TestAll(t *testing.T) {
	c := cache.New()
	scripts := []string{"a", "b", "c", "d", ""}
	var want []string
	for _, s := range scripts {
		want = append(want, put(t, c, s)+s)
	}
	slices.Sort(want)
	c.Load("f", "named")
	seq := c.All()
	c.Flush()
	put(t, c, "another")
	for range 2 {
		var got []string
		for d, s := range seq {
			got = append(got, d+s)
		}
		if !slices.Equal(got, want) {
			t.Error(got)
		}
		for range seq {
			break
		}
	}
}

func TestSame(t *testing.T) {
	made := func(scripts string, named ...string) *cache.Cache {
		c := cache.New()
		for _, s := range strings.Fields(scripts) {
			put(t, c, s)
		}
		for i := 0; i < len(named); i += 2 {
			c.Load(named[i], named[i+1])
		}
		return c
	}
	all := []*cache.Cache{made(""), made("a"), made("b"), made("a b"), made("", "f", "a"), made("", "f", "b"), made("", "g", "a"), made("a", "f", "a"), made("", "f", "a", "g", "a")}
	for i, a := range all {
		for j, b := range all {
			if cache.Same(a, b) != (i == j) || cache.Same(a, b.Copy()) != (i == j) {
				t.Error(i, j)
			}
		}
		if cache.Same(a, nil) || cache.Same(&cache.Cache{}, a) {
			t.Error("nil", i)
		}
	}
	if !cache.Same(made("a b c"), made("c a b a")) || !cache.Same(nil, nil) || !cache.Same(nil, &cache.Cache{}) {
		t.Error("same")
	}
	a := made("a", "f", "x")
	b := a.Copy()
	put(t, a, "new")
	a.Load("f", "y")
	b.Flush()
	b.Load("g", "z")
	if !cache.Same(a, made("a new", "f", "y")) || !cache.Same(b, made("", "f", "x", "g", "z")) {
		t.Error("Copy")
	}
}

func TestNil(t *testing.T) {
	for _, c := range []*cache.Cache{nil, {}} {
		long := strings.Repeat("x", api.MaxText+1)
		if d, e := c.Put(long); d != "" || e != api.ErrNil {
			t.Error(d, e)
		}
		c.Flush()
		_, a := c.Get("a")
		_, b := c.Named("a")
		if a || b || c.Load("", long) != api.ErrNil || c.Unload("") != api.ErrNil || c.Names() != nil || c.Len() != 0 || c.Copy() != nil {
			t.Error("zero answers")
		}
		for range c.All() {
			t.Error("All of none")
		}
	}
}
