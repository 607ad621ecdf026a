package disk_test

import (
	"slices"
	"strings"
	"testing"

	"tabor/api"
	"tabor/disk"
)

func ok(t *testing.T, l ...api.Errno) {
	t.Helper()
	for i, e := range l {
		if e != api.OK {
			t.Errorf("call %d: %v", i, e)
		}
	}
}

func is(t *testing.T, d *disk.Disk, want ...api.File) {
	t.Helper()
	if got := d.Files(); !slices.Equal(got, want) {
		t.Errorf("files %v, not %v", got, want)
	}
}

func f(name, bytes string, synced int) api.File {
	return api.File{Name: name, Bytes: bytes, Synced: synced}
}

func TestExample(t *testing.T) {
	d := disk.New()
	ok(t, d.Append("a", []byte("xy")), d.Sync("a"), d.Append("a", []byte("z")))
	is(t, d, f("a", "xyz", 2))
	is(t, d.Crash(), f("a", "xy", 2))
	d = d.Crash(1)
	is(t, d, f("a", "xyz", 3))
	if d.Steps() != 0 {
		t.Error("steps of a new disk")
	}
	ok(t, d.Rename("a", "b"))
	if _, e := d.Read("a"); e != api.ErrNone {
		t.Error(e)
	}
	if b, e := d.Read("b"); e != api.OK || string(b) != "xyz" {
		t.Error(string(b), e)
	}
	d.Halt(1)
	ok(t, d.Append("c", []byte("q")))
	if e := d.Append("c", []byte("q")); e != api.ErrDisk || d.Steps() != 2 {
		t.Error(e, d.Steps())
	}
	is(t, d, f("b", "xyz", 3), f("c", "q", 0))
	if d.Append("A", []byte("q")) != api.ErrArg || d.Cut("b", 9) != api.ErrRange || d.Sync("x") != api.ErrNone {
		t.Error("errors")
	}
}

func TestName(t *testing.T) {
	for name, want := range map[string]bool{
		"a": true, "z0-9.": true, strings.Repeat("a", 64): true, ".": true, "-": true,
		"": false, "A": false, strings.Repeat("a", 65): false, "a b": false, "a/": false, "a_": false, "\xff": false, "a:": false, "`": false, "{": false, "a\x00": false,
	} {
		if disk.Name(name) != want {
			t.Errorf("%q", name)
		}
	}
}

func TestFrom(t *testing.T) {
	long := strings.Repeat("x", api.MaxText)
	files := []api.File{f("a", "xyz", 2), f("b", "", 0), f("c", "q", 1), f("d", long, len(long))}
	d, e := disk.From(files...)
	ok(t, e)
	is(t, d, files...)
	is(t, d.Crash(), f("a", "xy", 2), f("b", "", 0), f("c", "q", 1), f("d", long, len(long)))
	again, e := disk.From(d.Files()...)
	ok(t, e)
	is(t, again, files...)
	if again.Steps() != 0 {
		t.Error("Steps")
	}
	none, e := disk.From()
	ok(t, e)
	is(t, none)
	for i, c := range []struct {
		files []api.File
		want  api.Errno
	}{
		{[]api.File{f("A", "", 0)}, api.ErrArg},
		{[]api.File{f("", "", 0)}, api.ErrArg},
		{[]api.File{f("b", "", 0), f("a", "", 0)}, api.ErrArg},
		{[]api.File{f("a", "", 0), f("a", "", 0)}, api.ErrArg},
		{[]api.File{f("a", "", 1)}, api.ErrArg},
		{[]api.File{f("a", "x", -1)}, api.ErrArg},
		{[]api.File{f("a", long+"x", 0)}, api.ErrLong},
		{[]api.File{f("a", long+"x", 0), f("a", "", 0)}, api.ErrArg},
	} {
		if d, e := disk.From(c.files...); d != nil || e != c.want {
			t.Error(i, e)
		}
	}
}

func TestSteps(t *testing.T) {
	d := disk.New()
	ok(t, d.Append("a", nil))
	is(t, d, f("a", "", 0))
	ok(t, d.Append("a", []byte("abcdef")), d.Sync("a"), d.Append("a", []byte("gh")), d.Cut("a", 7))
	is(t, d, f("a", "abcdefg", 6))
	ok(t, d.Cut("a", 3))
	is(t, d, f("a", "abc", 3))
	ok(t, d.Append("a", []byte("xyz")))
	is(t, d, f("a", "abcxyz", 3))
	ok(t, d.Append("b", []byte("old")), d.Rename("a", "b"))
	is(t, d, f("b", "abcxyz", 3))
	ok(t, d.Rename("b", "b"))
	is(t, d, f("b", "abcxyz", 3))
	ok(t, d.Cut("b", 6), d.Cut("b", 0), d.Remove("b"))
	is(t, d)
	if d.Steps() != 13 {
		t.Error(d.Steps())
	}
}

func TestErrors(t *testing.T) {
	d := disk.New()
	ok(t, d.Append("a", []byte("abc")))
	for i, c := range []struct{ got, want api.Errno }{
		{d.Append("", nil), api.ErrArg}, {d.Cut("A", 0), api.ErrArg}, {d.Sync("A"), api.ErrArg},
		{d.Rename("A", "a"), api.ErrArg}, {d.Rename("x", "A"), api.ErrArg}, {d.Remove("A"), api.ErrArg},
		{d.Cut("x", -1), api.ErrNone}, {d.Sync("x"), api.ErrNone}, {d.Rename("x", "a"), api.ErrNone},
		{d.Rename("x", "x"), api.ErrNone}, {d.Remove("x"), api.ErrNone}, {d.Cut("a", -1), api.ErrRange}, {d.Cut("a", 4), api.ErrRange},
		{d.Append("a", make([]byte, api.MaxText-2)), api.ErrLong}, {d.Append("b", make([]byte, api.MaxText+1)), api.ErrLong},
	} {
		if c.got != c.want {
			t.Error(i, c.got, c.want)
		}
	}
	if d.Steps() != 1 {
		t.Error("what is refused is no step", d.Steps())
	}
	is(t, d, f("a", "abc", 0))
	ok(t, d.Append("a", make([]byte, api.MaxText-3)))
	for name, want := range map[string]api.Errno{"a": api.OK, "A": api.ErrArg, "x": api.ErrNone} {
		if _, e := d.Read(name); e != want {
			t.Error(name, e)
		}
	}
}

func TestHalt(t *testing.T) {
	d := disk.New()
	ok(t, d.Append("a", []byte("abc")))
	d.Halt(2)
	d.Halt(1)
	ok(t, d.Sync("a"))
	for i, c := range []struct{ got, want api.Errno }{
		{d.Append("a", nil), api.ErrDisk}, {d.Cut("a", 0), api.ErrDisk}, {d.Sync("a"), api.ErrDisk}, {d.Rename("a", "b"), api.ErrDisk},
		{d.Remove("a"), api.ErrDisk}, {d.Remove("x"), api.ErrNone}, {d.Cut("a", 9), api.ErrRange}, {d.Append("a", make([]byte, api.MaxText)), api.ErrLong}, {d.Sync("A"), api.ErrArg},
	} {
		if c.got != c.want {
			t.Error(i, c.got, c.want)
		}
	}
	is(t, d, f("a", "abc", 3))
	if d.Steps() != 2 {
		t.Error(d.Steps())
	}
	ok(t, d.Crash().Append("a", []byte("d")))
	is(t, d, f("a", "abc", 3))
	d.Halt(1)
	ok(t, d.Remove("a"))
	d.Halt(-5)
	if d.Append("a", nil) != api.ErrDisk {
		t.Error("Halt below 0")
	}
	e := disk.New()
	e.Halt(0)
	if e.Append("a", nil) != api.ErrDisk || e.Steps() != 0 {
		t.Error("Halt(0)")
	}
}

func TestCrash(t *testing.T) {
	d, _ := disk.From(f("a", "abcd", 1), f("b", "efgh", 4), f("c", "ijkl", 0))
	is(t, d.Crash(2, 9, -3), f("a", "abc", 3), f("b", "efgh", 4), f("c", "", 0))
	is(t, d.Crash(0, 0, 3, 7), f("a", "a", 1), f("b", "efgh", 4), f("c", "ijk", 3))
	big := int(^uint(0) >> 1)
	is(t, d.Crash(big, big, big), f("a", "abcd", 4), f("b", "efgh", 4), f("c", "ijkl", 4))
	is(t, d.Crash(-big-1), f("a", "a", 1), f("b", "efgh", 4), f("c", "", 0))
	left := d.Crash(1, 1, 1)
	is(t, left.Crash(), left.Files()...)
	is(t, left.Crash(9, 9, 9), left.Files()...)
	ok(t, left.Append("a", []byte("z")), d.Append("a", []byte("y")))
	is(t, left, f("a", "abz", 2), f("b", "efgh", 4), f("c", "i", 1))
	is(t, d, f("a", "abcdy", 1), f("b", "efgh", 4), f("c", "ijkl", 0))
}

func TestMemory(t *testing.T) {
	b := []byte("abc")
	d := disk.New()
	ok(t, d.Append("a", b))
	b[0] = 'x'
	got, _ := d.Read("a")
	got[1] = 'y'
	is(t, d, f("a", "abc", 0))
	ok(t, d.Cut("a", 1))
	left := d.Crash(9)
	ok(t, d.Append("a", []byte("q")), left.Append("a", []byte("r")))
	is(t, d, f("a", "aq", 0))
	is(t, left, f("a", "ar", 1))
}

func TestNil(t *testing.T) {
	for _, d := range []*disk.Disk{nil, {}} {
		for i, e := range []api.Errno{d.Append("A", nil), d.Cut("a", -1), d.Sync("a"), d.Rename("a", "A"), d.Remove("a")} {
			if e != api.ErrNil {
				t.Error(i, e)
			}
		}
		if b, e := d.Read("A"); b != nil || e != api.ErrNil {
			t.Error(b, e)
		}
		d.Halt(1)
		if d.Files() != nil || d.Steps() != 0 || d.Crash(1) != nil {
			t.Error("zero answers")
		}
	}
}
