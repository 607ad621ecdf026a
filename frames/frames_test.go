package frames_test

import (
	"bytes"
	"hash/crc32"
	"slices"
	"strings"
	"testing"

	"tabor/api"
	"tabor/frames"
)

func four(n uint32) []byte { return []byte{byte(n), byte(n >> 8), byte(n >> 16), byte(n >> 24)} }

// framed lays a frame around any body.
func framed(body []byte) []byte {
	length := four(uint32(len(body)))
	sum := crc32.ChecksumIEEE(append(slices.Clone(length), body...))
	return slices.Concat(length, four(sum), body)
}

func lists() [][]string {
	return [][]string{nil, {""}, {"a"}, {"b", "c"}, {"", "", ""}, {"\x00\xff", strings.Repeat("x", 300)}, {"one", "", "three"}}
}

func TestPut(t *testing.T) {
	for _, l := range lists() {
		body := four(uint32(len(l)))
		for _, s := range l {
			body = slices.Concat(body, four(uint32(len(s))), []byte(s))
		}
		got, e := frames.Put(l...)
		if e != api.OK || !bytes.Equal(got, framed(body)) || frames.Size(l...) != len(got) {
			t.Errorf("%q: %x %v %d", l, got, e, frames.Size(l...))
		}
	}
	if got, _ := frames.Put("a"); !bytes.HasPrefix(got, []byte{9, 0, 0, 0}) || !bytes.HasSuffix(got, []byte{1, 0, 0, 0, 1, 0, 0, 0, 'a'}) || len(got) != 17 {
		t.Errorf("%x", got)
	}
}

func TestBounds(t *testing.T) {
	most := strings.Repeat("x", api.MaxText-8)
	b, e := frames.Put(most)
	if e != api.OK || frames.Size(most) != api.MaxText+8 {
		t.Error("the longest body", e)
	}
	if l, n, e := frames.Read(b); e != api.OK || n != len(b) || len(l) != 1 || l[0] != most {
		t.Error("the longest body read", n, e)
	}
	many := make([]string, api.MaxItems)
	b, e = frames.Put(many...)
	if e != api.OK || len(b) != frames.Size(many...) || len(b) != 12+4*api.MaxItems {
		t.Error("most items", e)
	}
	if l, _, e := frames.Read(b); e != api.OK || len(l) != api.MaxItems {
		t.Error("most items read", e)
	}
	for i, l := range [][]string{{most + "x"}, {most, ""}, make([]string, api.MaxItems+1)} {
		if b, e := frames.Put(l...); b != nil || e != api.ErrLong || frames.Size(l...) != 0 {
			t.Error(i, e)
		}
	}
}

func TestRead(t *testing.T) {
	for _, l := range lists() {
		b, _ := frames.Put(l...)
		for _, behind := range []string{"", "x", string(b)} {
			got, n, e := frames.Read(append(slices.Clone(b), behind...))
			if e != api.OK || n != len(b) || !slices.Equal(got, l) {
				t.Errorf("%q: %q %d %v", l, got, n, e)
			}
			again, _ := frames.Put(got...)
			if !bytes.Equal(again, b) {
				t.Errorf("%q: put again %x", l, again)
			}
		}
		for cut := range b {
			if got, n, e := frames.Read(b[:cut]); got != nil || n != 0 || e != api.ErrShort {
				t.Fatalf("%q cut at %d: %v", l, cut, e)
			}
		}
		for i := 4; i < len(b); i++ {
			for _, flip := range []byte{1, 128, 255} {
				c := slices.Clone(b)
				c[i] ^= flip
				if got, n, e := frames.Read(c); got != nil || n != 0 || e != api.ErrFrame {
					t.Fatalf("%q byte %d: %v", l, i, e)
				}
			}
		}
	}
}

func TestReadErrors(t *testing.T) {
	for i, c := range []struct {
		b    []byte
		want api.Errno
	}{
		{nil, api.ErrShort},
		{[]byte{255, 255, 255, 255, 0, 0, 0}, api.ErrShort},
		{[]byte{255, 255, 255, 255, 0, 0, 0, 0}, api.ErrFrame},
		{append(four(api.MaxText), 0, 0, 0, 0), api.ErrShort},
		{append(four(api.MaxText+1), 0, 0, 0, 0), api.ErrFrame},
		{framed(nil), api.ErrFrame},
		{framed([]byte{0, 0, 0}), api.ErrFrame},
		{framed(four(1)), api.ErrFrame},
		{framed(append(four(0), 0)), api.ErrFrame},
		{framed(slices.Concat(four(1), four(2), []byte("a"))), api.ErrFrame},
		{framed(slices.Concat(four(1), four(1<<32-1), []byte("a"))), api.ErrFrame},
		{framed(slices.Concat(four(1), four(1), []byte("ab"))), api.ErrFrame},
		{framed(four(1<<32 - 1)), api.ErrFrame},
		{framed(append(four(api.MaxItems+1), make([]byte, 4*(api.MaxItems+1))...)), api.ErrFrame},
	} {
		if l, n, e := frames.Read(c.b); l != nil || n != 0 || e != c.want {
			t.Error(i, l, n, e)
		}
	}
}

func TestScan(t *testing.T) {
	var all []byte
	var ends []int
	for _, l := range lists() {
		b, _ := frames.Put(l...)
		all = append(all, b...)
		ends = append(ends, len(all))
	}
	for cut := 0; cut <= len(all); cut++ {
		whole, end := 0, 0
		for i, e := range ends {
			if e <= cut {
				whole, end = i+1, e
			}
		}
		got, n := frames.Scan(all[:cut])
		if n != end || !frames.Same(got, lists()[:whole]) {
			t.Fatalf("cut at %d: %q %d", cut, got, n)
		}
		if again, m := frames.Scan(all[:n]); m != n || !frames.Same(got, again) {
			t.Fatalf("scanned again at %d", cut)
		}
	}
	a, _ := frames.Put("a")
	bc, _ := frames.Put("b", "c")
	if l, n := frames.Scan(slices.Concat(a, bc, []byte("xyz"))); n != 39 || !frames.Same(l, [][]string{{"a"}, {"b", "c"}}) {
		t.Error(l, n)
	}
	broken := slices.Concat(a, bc, a)
	broken[len(a)+9] ^= 1
	if l, n := frames.Scan(broken); n != len(a) || len(l) != 1 {
		t.Error("behind a broken frame", l, n)
	}
}

func TestSame(t *testing.T) {
	same := [][2][][]string{{nil, {}}, {{nil}, {{}}}, {{{"a"}, {"b", ""}}, {{"a"}, {"b", ""}}}}
	for i, c := range same {
		if !frames.Same(c[0], c[1]) {
			t.Error("same", i)
		}
	}
	other := [][2][][]string{{nil, {{}}}, {{{"a"}}, {{"b"}}}, {{{"a"}}, {{"a", ""}}}, {{{"a", "b"}}, {{"a"}, {"b"}}}, {{{"a"}, {"b"}}, {{"b"}, {"a"}}}}
	for i, c := range other {
		if frames.Same(c[0], c[1]) || frames.Same(c[1], c[0]) {
			t.Error("other", i)
		}
	}
}

func TestMemory(t *testing.T) {
	b, _ := frames.Put("abc")
	l, _, _ := frames.Read(b)
	s, _ := frames.Scan(b)
	for i := range b {
		b[i] = 'x'
	}
	if l[0] != "abc" || s[0][0] != "abc" {
		t.Error("texts share memory with the bytes")
	}
}
