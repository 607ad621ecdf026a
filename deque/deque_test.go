package deque_test

import (
	"math"
	"slices"
	"strconv"
	"strings"
	"testing"

	"tabor/api"
	"tabor/deque"
)

func made(t *testing.T, s string) *deque.Deque {
	t.Helper()
	d, e := deque.New(strings.Split(s, "")...)
	if e != api.OK {
		t.Fatal(e)
	}
	return d
}

func told(d *deque.Deque) string { return strings.Join(d.Range(0, -1), "") }

func TestSpan(t *testing.T) {
	for i, c := range []struct {
		n           int
		from, until int64
		a, b        int
	}{
		{5, 1, -2, 1, 4}, {5, -9, 1, 0, 2}, {5, 3, 9, 3, 5}, {5, 3, 2, 0, 0}, {0, 0, -1, 0, 0}, {5, 7, 9, 0, 0},
		{5, 0, -1, 0, 5}, {5, -5, -5, 0, 1}, {5, -6, -5, 0, 1}, {5, 0, -6, 0, 0}, {5, -9, -9, 0, 0}, {5, 4, 4, 4, 5}, {5, 5, 5, 0, 0}, {5, -1, -1, 4, 5},
		{5, math.MinInt64, math.MaxInt64, 0, 5}, {5, math.MaxInt64, math.MaxInt64, 0, 0}, {5, math.MinInt64, math.MinInt64, 0, 0}, {5, 0, 0, 0, 1}, {1, 0, 0, 0, 1}, {-3, 0, -1, 0, 0},
		{math.MinInt, math.MinInt64, -1, 0, 0}, {math.MinInt, 0, math.MinInt64, 0, 0}, {5, -3, 1, 0, 0}, {5, -4, 1, 1, 2},
	} {
		if a, b := deque.Span(c.n, c.from, c.until); a != c.a || b != c.b {
			t.Error(i, a, b)
		}
	}
	for n := range 6 {
		for at := -n; at < n; at++ {
			i, _ := deque.Place(n, int64(at))
			if a, b := deque.Span(n, int64(at), int64(at)); a != i || b != i+1 {
				t.Error(n, at, a, b)
			}
		}
	}
	if a, b := deque.Span(math.MaxInt, 1, -1); a != 1 || b != math.MaxInt {
		t.Error(a, b)
	}
}

func TestPlace(t *testing.T) {
	for i, c := range []struct {
		n    int
		at   int64
		want int
		ok   bool
	}{
		{5, -1, 4, true}, {5, 5, 0, false}, {5, -6, 0, false}, {5, -5, 0, true}, {5, 4, 4, true}, {5, 0, 0, true}, {0, 0, 0, false}, {0, -1, 0, false}, {-2, -1, 0, false}, {-2, -2, 0, false},
		{1, 0, 0, true}, {1, -1, 0, true}, {1, 1, 0, false}, {1, -2, 0, false}, {1, math.MinInt64, 0, false}, {1, math.MaxInt64, 0, false}, {math.MinInt, math.MinInt64, 0, false},
	} {
		if got, ok := deque.Place(c.n, c.at); got != c.want || ok != c.ok {
			t.Error(i, got, ok)
		}
	}
}

func TestPush(t *testing.T) {
	d := made(t, "ab")
	if e := d.PushFront("x", "y"); e != api.OK || told(d) != "yxab" {
		t.Error(e, told(d))
	}
	if e := d.PushBack("p", "q"); e != api.OK || told(d) != "yxabpq" {
		t.Error(e, told(d))
	}
	for _, want := range []string{"y", "x"} {
		if s, ok := d.PopFront(); s != want || !ok {
			t.Error(s, ok)
		}
	}
	for _, want := range []string{"q", "p", "b", "a"} {
		if s, ok := d.PopBack(); s != want || !ok {
			t.Error(s, ok)
		}
	}
	if s, ok := d.PopFront(); s != "" || ok {
		t.Error(s, ok)
	}
	if s, ok := d.PopBack(); s != "" || ok {
		t.Error(s, ok)
	}
	if d.PushFront() != api.OK || d.PushBack() != api.OK || d.Len() != 0 {
		t.Error("pushes of nothing")
	}
}

func TestBounds(t *testing.T) {
	most := strings.Repeat("x", api.MaxText)
	many := make([]string, api.MaxItems)
	d, e := deque.New(many...)
	if e != api.OK || d.Len() != api.MaxItems || d.PushBack() != api.OK || d.PushFront("a") != api.ErrLong || d.PushBack("a") != api.ErrLong || d.Len() != api.MaxItems {
		t.Error("most items", e)
	}
	if d.Put(-1, most) != api.OK || d.Put(0, most+"x") != api.ErrLong || d.Put(api.MaxItems, most+"x") != api.ErrLong {
		t.Error("Put")
	}
	d.PopBack()
	if d.PushFront("a", "b") != api.ErrLong || d.Len() != api.MaxItems-1 || d.PushFront("a") != api.OK {
		t.Error("one free place")
	}
	for i, l := range [][]string{append(many, ""), {"a", most + "x"}} {
		if d, e := deque.New(l...); d != nil || e != api.ErrLong {
			t.Error(i, e)
		}
	}
	d = made(t, "ab")
	if d.PushFront("a", most+"x") != api.ErrLong || d.PushBack(most+"x") != api.ErrLong || told(d) != "ab" || d.PushFront(most) != api.OK {
		t.Error("long texts")
	}
}

func TestAt(t *testing.T) {
	d := made(t, "abc")
	for at, want := range map[int64]string{0: "a", 1: "b", 2: "c", -1: "c", -3: "a", 3: "", -4: "", math.MaxInt64: "", math.MinInt64: ""} {
		if s, ok := d.At(at); s != want || ok != (want != "") {
			t.Error(at, s, ok)
		}
	}
	for i, c := range []struct{ got, want api.Errno }{{d.Put(0, "x"), api.OK}, {d.Put(-1, "z"), api.OK}, {d.Put(3, "q"), api.ErrRange}, {d.Put(-4, "q"), api.ErrRange}} {
		if c.got != c.want {
			t.Error(i, c.got)
		}
	}
	if told(d) != "xbz" {
		t.Error(told(d))
	}
}

func TestKeep(t *testing.T) {
	for i, c := range []struct {
		from, until int64
		want        string
	}{{0, -1, "abcde"}, {1, 2, "bc"}, {-2, -1, "de"}, {3, 1, ""}, {9, 9, ""}, {-9, 0, "a"}} {
		d := made(t, "abcde")
		d.PushFront("z")
		d.PopFront()
		if got := strings.Join(d.Range(c.from, c.until), ""); got != c.want {
			t.Error(i, got)
		}
		d.Keep(c.from, c.until)
		if told(d) != c.want || d.Len() != len(c.want) {
			t.Error(i, told(d))
		}
		d.PushBack("y")
		d.PushFront("x")
		if told(d) != "x"+c.want+"y" {
			t.Error(i, told(d))
		}
	}
}

func TestDrop(t *testing.T) {
	for i, c := range []struct {
		count int64
		want  string
		n     int
	}{{0, "bc", 3}, {1, "baca", 1}, {2, "bca", 2}, {-2, "abc", 2}, {-1, "abac", 1}, {3, "bc", 3}, {9, "bc", 3}, {-9, "bc", 3}, {math.MinInt64, "bc", 3}, {math.MaxInt64, "bc", 3}} {
		d := made(t, "abaca")
		if got := d.Drop(c.count, "a"); got != c.n || told(d) != c.want {
			t.Error(i, got, told(d))
		}
		if c.count == 0 && slices.Contains(d.Range(0, -1), "a") {
			t.Error("Drop of all")
		}
	}
	d := made(t, "abaa")
	if n := d.Drop(-2, "a"); n != 2 || told(d) != "ab" {
		t.Error(n, told(d))
	}
	if n := d.Drop(0, "x"); n != 0 || told(d) != "ab" {
		t.Error(n, told(d))
	}
	d.PushFront("y")
	if told(d) != "yab" {
		t.Error(told(d))
	}
}

func TestAll(t *testing.T) {
	d := made(t, "abc")
	seq := d.All()
	d.PopFront()
	d.Put(0, "x")
	for range 2 {
		got := ""
		for i, s := range seq {
			got += strconv.Itoa(i) + s
		}
		if got != "0a1b2c" {
			t.Error(got)
		}
		for range seq {
			break
		}
	}
}

func TestAgainstModel(t *testing.T) {
	d, _ := deque.New()
	var model []string
	x := uint32(7)
	for i := range 20000 {
		x = x*1664525 + 1013904223
		s := strconv.Itoa(i)
		switch x >> 16 % 6 {
		case 0, 1:
			d.PushBack(s, "b")
			model = append(model, s, "b")
		case 2:
			d.PushFront(s, "f")
			model = append([]string{"f", s}, model...)
		case 3:
			got, ok := d.PopBack()
			if ok != (len(model) > 0) || ok && got != model[len(model)-1] {
				t.Fatal("PopBack", got, ok)
			}
			model = model[:max(len(model)-1, 0)]
		default:
			got, ok := d.PopFront()
			if ok != (len(model) > 0) || ok && got != model[0] {
				t.Fatal("PopFront", got, ok)
			}
			model = model[min(1, len(model)):]
		}
		if d.Len() != len(model) || i%50 == 0 && !slices.Equal(d.Range(0, -1), model) {
			t.Fatal("step", i)
		}
	}
}

func TestMemory(t *testing.T) {
	l := []string{"a", "b"}
	d, _ := deque.New(l...)
	l[0] = "x"
	d.Range(0, -1)[1] = "y"
	if told(d) != "ab" {
		t.Error(told(d))
	}
}

func TestNil(t *testing.T) {
	for _, d := range []*deque.Deque{nil, {}} {
		if d.PushFront("a") != api.ErrNil || d.PushBack() != api.ErrNil || d.Put(9, strings.Repeat("x", api.MaxText+1)) != api.ErrNil {
			t.Error("errors")
		}
		d.Keep(0, 1)
		_, a := d.PopFront()
		_, b := d.PopBack()
		_, c := d.At(0)
		if a || b || c || d.Len() != 0 || d.Range(0, -1) != nil || d.Drop(0, "a") != 0 {
			t.Error("zero answers")
		}
		for range d.All() {
			t.Error("All of none")
		}
	}
}
