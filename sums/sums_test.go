package sums_test

import (
	"bytes"
	"crypto/sha1"
	"encoding/hex"
	"hash/crc32"
	"strings"
	"testing"

	"tabor/api"
	"tabor/sums"
)

func row(n int) []byte {
	b := make([]byte, n)
	x := uint32(n)*2654435761 + 1
	for i := range b {
		x = x*1664525 + 1013904223
		b[i] = byte(x >> 24)
	}
	return b
}

func TestCrc(t *testing.T) {
	if sums.Crc(nil) != 0 || sums.Crc([]byte{}) != 0 || sums.Crc([]byte("123456789")) != 0xcbf43926 {
		t.Error("known sums")
	}
	for n := range 300 {
		b := row(n)
		if got, want := sums.Crc(b), crc32.ChecksumIEEE(b); got != want {
			t.Fatalf("%d bytes: %x, not %x", n, got, want)
		}
		for _, cut := range []int{0, n / 3, n} {
			if sums.Update(sums.Crc(b[:cut]), b[cut:]) != sums.Crc(b) {
				t.Fatalf("%d bytes cut at %d", n, cut)
			}
		}
	}
	for x := range 256 {
		if sums.Crc([]byte{byte(x)}) != crc32.ChecksumIEEE([]byte{byte(x)}) {
			t.Errorf("byte %d", x)
		}
	}
	if sums.Update(7, nil) != 7 {
		t.Error("Update with nothing")
	}
}

func TestBytes(t *testing.T) {
	if got := sums.Bytes(0xcbf43926); !bytes.Equal(got, []byte{0x26, 0x39, 0xf4, 0xcb}) {
		t.Errorf("%x", got)
	}
	for _, n := range []uint32{0, 1, 255, 256, 1 << 16, 1 << 24, 1<<32 - 1, 0x01020304} {
		if got, e := sums.Of(sums.Bytes(n)); got != n || e != api.OK {
			t.Error(n, got, e)
		}
	}
	for _, b := range [][]byte{nil, {}, {1}, {1, 2, 3}, {1, 2, 3, 4, 5}} {
		if n, e := sums.Of(b); n != 0 || e != api.ErrArg {
			t.Error(b, n, e)
		}
	}
}

func TestPad(t *testing.T) {
	want := append([]byte("abc\x80"), make([]byte, 60)...)
	want[63] = 24
	if got := sums.Pad([]byte("abc")); !bytes.Equal(got, want) {
		t.Errorf("%x", got)
	}
	seen := map[string]int{}
	for n := range 200 {
		room := append(make([]byte, 0, n+100), row(n)...)
		rest := room[n : n+100]
		p := sums.Pad(room)
		if len(p)%64 != 0 || len(p) < n+9 || len(p) >= n+9+64 || !bytes.Equal(p[:n], room) || p[n] != 128 {
			t.Fatalf("%d bytes: %x", n, p)
		}
		bits := 0
		for _, x := range p[len(p)-8:] {
			bits = bits<<8 | int(x)
		}
		if bits != 8*n || bytes.Trim(p[n+1:len(p)-8], "\x00") != nil && len(bytes.Trim(p[n+1:len(p)-8], "\x00")) != 0 {
			t.Fatalf("%d bytes: length %d", n, bits)
		}
		if !bytes.Equal(rest, make([]byte, 100)) {
			t.Fatal("spare room was changed")
		}
		if _, ok := seen[string(p)]; ok {
			t.Fatal("padded alike")
		}
		seen[string(p)] = n
	}
	b := []byte("abc")
	sums.Pad(b)[0] = 'x'
	if b[0] != 'a' {
		t.Error("Pad shares memory")
	}
}

func TestBlock(t *testing.T) {
	if sums.Start() != [5]uint32{0x67452301, 0xefcdab89, 0x98badcfe, 0x10325476, 0xc3d2e1f0} {
		t.Error("Start")
	}
	for _, n := range []int{0, 1, 63, 65, 128} {
		if s, e := sums.Block(sums.Start(), make([]byte, n)); e != api.ErrArg || s != [5]uint32{} {
			t.Error(n, s, e)
		}
	}
	s, e := sums.Block(sums.Start(), sums.Pad([]byte("abc")))
	if e != api.OK || s != [5]uint32{0xa9993e36, 0x4706816a, 0xba3e2571, 0x7850c26c, 0x9cd0d89d} {
		t.Errorf("%x %v", s, e)
	}
}

func TestDigest(t *testing.T) {
	for text, want := range map[string]string{
		"": "da39a3ee5e6b4b0d3255bfef95601890afd80709", "abc": "a9993e364706816aba3e25717850c26c9cd0d89d",
	} {
		if d := sums.Digest([]byte(text)); d != want {
			t.Errorf("%q: %s", text, d)
		}
	}
	for n := range 260 {
		b := row(n)
		sum := sha1.Sum(b)
		d := sums.Digest(b)
		if d != hex.EncodeToString(sum[:]) || !sums.IsDigest(d) {
			t.Fatalf("%d bytes: %s", n, d)
		}
		state := sums.Start()
		for p := sums.Pad(b); len(p) > 0; p = p[64:] {
			state, _ = sums.Block(state, p[:64])
		}
		if sums.Text(state) != d {
			t.Fatalf("%d bytes: not Text of Block", n)
		}
	}
}

func TestText(t *testing.T) {
	if got := sums.Text([5]uint32{}); got != strings.Repeat("0", 40) {
		t.Error(got)
	}
	if got := sums.Text([5]uint32{1, 0xabcdef, 1 << 31, 1<<32 - 1, 16}); got != "0000000100abcdef80000000ffffffff00000010" {
		t.Error(got)
	}
	good := "0123456789abcdef0123456789abcdef01234567"
	if !sums.IsDigest(good) {
		t.Error("a digest refused")
	}
	for _, bad := range []string{"", "a", good[1:], good + "0", strings.ToUpper(good), good[1:] + "g", good[1:] + "`", good[1:] + "/", good[1:] + ":", "A" + good[1:], good[:39] + "\x00"} {
		if sums.IsDigest(bad) {
			t.Errorf("%q", bad)
		}
	}
}
