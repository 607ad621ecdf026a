package log_test

import (
	"slices"
	"strconv"
	"strings"
	"testing"

	"tabor/api"
	"tabor/disk"
	"tabor/frames"
	"tabor/log"
)

func opened(t *testing.T, d *disk.Disk) (*log.Log, [][]string) {
	t.Helper()
	l, records, e := log.Open(d)
	if e != api.OK || l == nil {
		t.Fatal(e)
	}
	return l, records
}

func is(t *testing.T, d *disk.Disk, want ...[]string) {
	t.Helper()
	records, n, e := log.Look(d)
	size := 0
	for _, r := range want {
		size += frames.Size(r...)
	}
	if e != api.OK || n != size || !frames.Same(records, want) {
		t.Errorf("%v %d %v, not %v", records, n, e, want)
	}
}

// framed tells what the file should have.
func framed(records ...[]string) string {
	var out []byte
	for _, r := range records {
		b, _ := frames.Put(r...)
		out = append(out, b...)
	}
	return string(out)
}

func TestExample(t *testing.T) {
	d := disk.New()
	l, records := opened(t, d)
	if records != nil || l.Add("a") != api.OK || l.Add("b", "c") != api.OK || l.Size() != 39 {
		t.Error(records, l.Size())
	}
	is(t, d, []string{"a"}, []string{"b", "c"})
	_, records = opened(t, d.Crash())
	if !frames.Same(records, [][]string{{"a"}, {"b", "c"}}) {
		t.Error(records)
	}
	d.Halt(1)
	if l.Dead() || l.Add("d") != api.ErrDisk || !l.Dead() || l.Add("e") != api.ErrDead {
		t.Error("dead")
	}
	d = d.Crash(5)
	l, records = opened(t, d)
	if !frames.Same(records, [][]string{{"a"}, {"b", "c"}}) {
		t.Error(records)
	}
	if l.Rewrite([]string{"x"}) != api.OK || l.Size() != 17 {
		t.Error("Rewrite", l.Size())
	}
	is(t, d, []string{"x"})
}

func TestOpen(t *testing.T) {
	ab := framed([]string{"a"}, []string{"b", ""})
	torn := ab + framed([]string{"c"})[:9]
	for i, c := range []struct {
		files []api.File
		steps int
		want  []api.File
	}{
		{nil, 2, []api.File{{Name: "log"}}},
		{[]api.File{{Name: "log"}}, 1, []api.File{{Name: "log"}}},
		{[]api.File{{Name: "log", Bytes: ab, Synced: 3}}, 1, []api.File{{Name: "log", Bytes: ab, Synced: len(ab)}}},
		{[]api.File{{Name: "log", Bytes: torn, Synced: len(ab)}}, 2, []api.File{{Name: "log", Bytes: ab, Synced: len(ab)}}},
		{[]api.File{{Name: "log", Bytes: "xyz", Synced: 3}}, 2, []api.File{{Name: "log"}}},
		{[]api.File{{Name: "log.new", Bytes: ab, Synced: 3}}, 3, []api.File{{Name: "log"}}},
		{[]api.File{{Name: "a", Bytes: "x"}, {Name: "log", Bytes: torn}, {Name: "log.new"}}, 3, []api.File{{Name: "a", Bytes: "x"}, {Name: "log", Bytes: ab, Synced: len(ab)}}},
	} {
		d, _ := disk.From(c.files...)
		looked, n, e := log.Look(d)
		if d.Steps() != 0 || e != api.OK {
			t.Error("Look does a step", i)
		}
		l, records := opened(t, d)
		if d.Steps() != c.steps || !slices.Equal(d.Files(), c.want) || !frames.Same(records, looked) || l.Size() != n || l.Dead() {
			t.Error(i, d.Steps(), d.Files())
		}
		if _, again := opened(t, d); !frames.Same(again, records) || !slices.Equal(d.Files(), c.want) {
			t.Error("opened twice", i)
		}
		for halt := range c.steps {
			d, _ := disk.From(c.files...)
			d.Halt(halt)
			if l, records, e := log.Open(d); l != nil || records != nil || e != api.ErrDisk || d.Steps() != halt {
				t.Error(i, halt, e)
			}
		}
	}
}

func TestSteps(t *testing.T) {
	d := disk.New()
	l, _ := opened(t, d)
	had := d.Steps()
	l.Add()
	if d.Steps() != had+2 {
		t.Error("Add", d.Steps()-had)
	}
	is(t, d, []string{})
	l.Add("x", "y")
	had = d.Steps()
	if l.Rewrite() != api.OK || d.Steps() != had+3 || l.Size() != 0 {
		t.Error("Rewrite", d.Steps()-had)
	}
	is(t, d)
	d.Append("log.new", []byte("left"))
	had = d.Steps()
	if l.Rewrite([]string{"p"}, nil, []string{"q", ""}) != api.OK || d.Steps() != had+4 {
		t.Error("Rewrite", d.Steps()-had)
	}
	is(t, d, []string{"p"}, nil, []string{"q", ""})
	want := framed([]string{"p"}, nil, []string{"q", ""})
	if !slices.Equal(d.Files(), []api.File{{Name: "log", Bytes: want, Synced: len(want)}}) || l.Size() != len(want) {
		t.Error(d.Files())
	}
	l.Add("r")
	is(t, d, []string{"p"}, nil, []string{"q", ""}, []string{"r"})
}

func TestLong(t *testing.T) {
	d := disk.New()
	l, _ := opened(t, d)
	most := strings.Repeat("x", api.MaxText-16)
	had := d.Steps()
	for i, c := range []struct{ got, want api.Errno }{
		{l.Add(most + "x"), api.ErrLong}, {l.Add(make([]string, api.MaxItems+1)...), api.ErrLong}, {l.Rewrite([]string{"a"}, make([]string, api.MaxItems+1)), api.ErrLong}, {l.Rewrite([]string{most}, nil), api.ErrLong}, {l.Rewrite([]string{most[1:]}, nil), api.ErrLong},
	} {
		if c.got != c.want || d.Steps() != had || l.Dead() || l.Size() != 0 {
			t.Error(i, c.got)
		}
	}
	if l.Add(most) != api.OK || l.Size() != api.MaxText || l.Add() != api.ErrLong || l.Dead() {
		t.Error("the longest", l.Size())
	}
	if l.Rewrite([]string{most[12:]}, nil) != api.OK || l.Size() != api.MaxText || l.Add() != api.ErrLong || l.Rewrite() != api.OK || l.Add() != api.OK {
		t.Error("the longest laid anew", l.Size())
	}
	d.Halt(0)
	if l.Add(most+"x") != api.ErrLong || l.Add("a") != api.ErrDisk || l.Add(most+"x") != api.ErrDead || l.Rewrite(make([]string, api.MaxItems+1)) != api.ErrDead {
		t.Error("the errors' order")
	}
}

// TestCrash: at each step, with whatever is kept, a log is as it was, or as it would have been.
func TestCrash(t *testing.T) {
	was := [][]string{{"a"}, {"b", "c"}}
	anew := [][]string{{"x"}, {"y", "z"}, {""}}
	more := append(slices.Clone(was), []string{"d", "e"})
	for halt := range 6 {
		for keep := range 60 {
			for _, rewrite := range []bool{false, true} {
				d := disk.New()
				l, _ := opened(t, d)
				for _, r := range was {
					l.Add(r...)
				}
				if rewrite && keep%2 == 1 {
					d.Append("log.new", []byte("rest"))
				}
				d.Halt(halt)
				e, will := api.OK, more
				if rewrite {
					e, will = l.Rewrite(anew...), anew
				} else {
					e = l.Add("d", "e")
				}
				if e != api.OK && (e != api.ErrDisk || !l.Dead() || l.Add("f") != api.ErrDead || l.Rewrite() != api.ErrDead) {
					t.Fatal(halt, e)
				}
				_, looked, _ := log.Look(d)
				if l.Size() != looked {
					t.Error("Size", halt, l.Size(), looked)
				}
				left := d.Crash(keep, 60-keep)
				again, records := opened(t, left)
				if !frames.Same(records, will) && (e == api.OK || !frames.Same(records, was)) {
					t.Fatal(halt, keep, rewrite, records)
				}
				if again.Add("more") != api.OK || again.Rewrite(anew...) != api.OK {
					t.Error("it goes on")
				}
				is(t, left.Crash(), anew...)
			}
		}
	}
}

func TestRow(t *testing.T) {
	d := disk.New()
	l, _ := opened(t, d)
	var want [][]string
	for i := range 300 {
		r := slices.Repeat([]string{strconv.Itoa(i)}, i%4)
		if i%50 == 49 {
			want = want[len(want)/2:]
			if l.Rewrite(want...) != api.OK {
				t.Fatal(i)
			}
		}
		if l.Add(r...) != api.OK {
			t.Fatal(i)
		}
		want = append(want, r)
		if i%7 == 0 {
			d = d.Crash(i, i)
			var records [][]string
			l, records = opened(t, d)
			if !frames.Same(records, want) {
				t.Fatal(i, records)
			}
		}
	}
	is(t, d, want...)
}

func TestNil(t *testing.T) {
	for _, d := range []*disk.Disk{nil, {}} {
		if l, records, e := log.Open(d); l != nil || records != nil || e != api.ErrNil {
			t.Error(e)
		}
		if records, n, e := log.Look(d); records != nil || n != 0 || e != api.ErrNil {
			t.Error(e)
		}
	}
	for _, l := range []*log.Log{nil, {}} {
		if l.Add(make([]string, api.MaxItems+1)...) != api.ErrNil || l.Rewrite() != api.ErrNil || l.Size() != 0 || l.Dead() {
			t.Error("zero answers")
		}
	}
}
