package resp_test

import (
	"bytes"
	"math"
	"slices"
	"strconv"
	"strings"
	"testing"

	"tabor/api"
	"tabor/resp"
)

// crlf writes lines with | for their ends.
func crlf(s string) string { return strings.ReplaceAll(s, "|", "\r\n") }

func requests() [][]string {
	return [][]string{{""}, {"GET", "a"}, {"SET", "a\r\n", "", "\x00\xff"}, {"0123456789"}, slices.Repeat([]string{"x"}, 12), {strings.Repeat("y", 1000)}}
}

func TestRequest(t *testing.T) {
	b, e := resp.Request("GET", "a")
	if e != api.OK || string(b) != crlf("*2|$3|GET|$1|a|") {
		t.Errorf("%q %v", b, e)
	}
	if b, e := resp.Request(""); e != api.OK || string(b) != crlf("*1|$0||") {
		t.Errorf("%q %v", b, e)
	}
	most := strings.Repeat("x", api.MaxText)
	for i, l := range [][]string{{most}, {most[1:], "y"}, make([]string, api.MaxItems)} {
		b, e := resp.Request(l...)
		if e != api.OK {
			t.Error(i, e)
		}
		if got, n, e := resp.Parse(b); e != api.OK || n != len(b) || !slices.Equal(got, l) {
			t.Error(i, n, e)
		}
	}
	for i, l := range [][]string{nil, {}, {most + "x"}, {most, "x"}, make([]string, api.MaxItems+1)} {
		if b, e := resp.Request(l...); b != nil || e != api.ErrArg {
			t.Error(i, e)
		}
	}
}

func TestParse(t *testing.T) {
	for _, l := range requests() {
		b, _ := resp.Request(l...)
		for _, behind := range []string{"", "x", "*0"} {
			if got, n, e := resp.Parse([]byte(string(b) + behind)); e != api.OK || n != len(b) || !slices.Equal(got, l) {
				t.Errorf("%q: %q %d %v", l, got, n, e)
			}
		}
		for cut := range b {
			if got, n, e := resp.Parse(b[:cut]); got != nil || n != 0 || e != api.ErrMore {
				t.Errorf("%q cut at %d: %v", l, cut, e)
			}
		}
	}
	most := strconv.Itoa(api.MaxText)
	for text, want := range map[string]api.Errno{
		"": api.ErrMore, "*": api.ErrMore, "*1": api.ErrMore, "*1\r": api.ErrMore, "*65536": api.ErrMore, "*65536|": api.ErrMore, "*1|$" + most + "|": api.ErrMore,
		"*1|$0": api.ErrMore, "*1|$0|": api.ErrMore, "*2|$1|a|$" + strconv.Itoa(api.MaxText-1) + "|": api.ErrMore, "*9|$5|ab": api.ErrMore,
		"*0": api.ErrProto, "*02": api.ErrProto, "x": api.ErrProto, "$": api.ErrProto, "*x": api.ErrProto, "*\r": api.ErrProto, "*-1": api.ErrProto, "*+1": api.ErrProto,
		"*1\n": api.ErrProto, "*1\rx": api.ErrProto, "*1 ": api.ErrProto, "*65537": api.ErrProto, "*70000": api.ErrProto, "*99999999999999999999": api.ErrProto,
		"*1|*": api.ErrProto, "*1|$-": api.ErrProto, "*1|$\r": api.ErrProto, "*1|$00": api.ErrProto, "*1|$01": api.ErrProto, "*1|$1|ab": api.ErrProto, "*1|$1|a\n": api.ErrProto,
		"*1|$1|a\rx": api.ErrProto, "*1|$1048577": api.ErrProto, "*2|$1|a|$" + most: api.ErrProto, "\r\n": api.ErrProto, "*1|+a": api.ErrProto,
	} {
		if got, n, e := resp.Parse([]byte(crlf(text))); got != nil || n != 0 || e != want {
			t.Errorf("%q: %q %d %v", text, got, n, e)
		}
	}
}

func text(s string) api.Reply                { return api.Reply{Kind: api.ReplyText, Text: s} }
func number(n int64) api.Reply               { return api.Reply{Kind: api.ReplyInt, Int: n} }
func list(l ...api.Reply) api.Reply          { return api.Reply{Kind: api.ReplyList, List: l} }
func of(k api.ReplyKind, s string) api.Reply { return api.Reply{Kind: k, Text: s} }

func nested(n int) api.Reply {
	r := list()
	for range n - 1 {
		r = list(r)
	}
	return r
}

func replies() map[string]api.Reply {
	return map[string]api.Reply{
		"$-1|": {}, "+OK|": of(api.ReplyStatus, "OK"), "+|": of(api.ReplyStatus, ""), "-ERR no|": of(api.ReplyError, "ERR no"), "-|": of(api.ReplyError, ""),
		":0|": number(0), ":7|": number(7), ":-12|": number(-12), ":9223372036854775807|": number(math.MaxInt64), ":-9223372036854775808|": number(math.MinInt64),
		"$0||": text(""), "$4||||": text("\r\n\r\n"), "$2|\x00\xff|": text("\x00\xff"), "*0|": list(), "*2|:1|$-1|": list(number(1), api.Reply{}),
		"*3|*1|*0|+a|$1|b|": list(list(list()), of(api.ReplyStatus, "a"), text("b")),
	}
}

func TestEncode(t *testing.T) {
	all := replies()
	for want, r := range all {
		b, e := resp.Encode(r)
		if e != api.OK || string(b) != crlf(want) || resp.Check(r) != api.OK {
			t.Errorf("%q: %q %v", want, b, e)
		}
		for _, behind := range []string{"", "x", ":1"} {
			got, n, e := resp.Decode([]byte(string(b) + behind))
			if e != api.OK || n != len(b) || !resp.Same(got, r) {
				t.Errorf("%q: %v %d %v", want, got, n, e)
			}
		}
		for cut := range b {
			if got, n, e := resp.Decode(b[:cut]); n != 0 || e != api.ErrMore || !resp.Same(got, api.Reply{}) {
				t.Errorf("%q cut at %d: %v", want, cut, e)
			}
		}
	}
}

func TestCheck(t *testing.T) {
	most := strings.Repeat("x", api.MaxText)
	for i, r := range []api.Reply{
		text(most), of(api.ReplyStatus, most), list(text(most[1:]), of(api.ReplyError, "x")), nested(api.MaxDepth),
		list(make([]api.Reply, api.MaxItems)...), list(list(make([]api.Reply, api.MaxItems-1)...)), list(nested(api.MaxDepth-1), nested(3)), text("\r\n"),
	} {
		b, e := resp.Encode(r)
		if e != api.OK || resp.Check(r) != api.OK {
			t.Error(i, e)
		}
		if got, n, e := resp.Decode(b); e != api.OK || n != len(b) || !resp.Same(got, r) {
			t.Error(i, n, e)
		}
	}
	one := []api.Reply{{}}
	for i, r := range []api.Reply{
		{Kind: -1}, {Kind: 6}, {Int: 1}, {Text: "x"}, {List: one},
		{Kind: api.ReplyStatus, Int: 1}, {Kind: api.ReplyStatus, List: one}, of(api.ReplyStatus, "a\nb"), of(api.ReplyError, "a\r"), of(api.ReplyStatus, "\n"),
		{Kind: api.ReplyError, Int: 1}, {Kind: api.ReplyError, List: one}, {Kind: api.ReplyInt, Text: "x"}, {Kind: api.ReplyInt, List: one},
		{Kind: api.ReplyText, Int: 1}, {Kind: api.ReplyText, List: one}, {Kind: api.ReplyList, Int: 1}, {Kind: api.ReplyList, Text: "x"},
		text(most + "x"), list(text(most), of(api.ReplyError, "x")), of(api.ReplyStatus, most+"x"), nested(api.MaxDepth + 1), nested(60000),
		list(make([]api.Reply, api.MaxItems+1)...), list(list(make([]api.Reply, api.MaxItems)...)), list(api.Reply{Int: 5}),
	} {
		if b, e := resp.Encode(r); b != nil || e != api.ErrArg || resp.Check(r) != api.ErrArg {
			t.Error(i, e)
		}
	}
}

func TestDecode(t *testing.T) {
	most := strings.Repeat("x", api.MaxText)
	deep := strings.Repeat("*1|", api.MaxDepth)
	for text, want := range map[string]api.Errno{
		"": api.ErrMore, "+": api.ErrMore, "+a": api.ErrMore, "+a\r": api.ErrMore, "-": api.ErrMore, ":": api.ErrMore, ":-": api.ErrMore, ":1": api.ErrMore, ":-1\r": api.ErrMore, ":0": api.ErrMore,
		"$": api.ErrMore, "$-": api.ErrMore, "$-1": api.ErrMore, "$3|ab": api.ErrMore, "*": api.ErrMore, "*2|:1|": api.ErrMore, ":922337203685477580": api.ErrMore, ":-9223372036854775808": api.ErrMore,
		"+" + most: api.ErrMore, "$1048576": api.ErrMore, "*65536|": api.ErrMore, "*2|*65534|": api.ErrMore, deep: api.ErrMore, deep[:len(deep)-3] + "*": api.ErrMore, "*2|+a|$1048575|": api.ErrMore,
		"x": api.ErrProto, "\r": api.ErrProto, "+a\n": api.ErrProto, "+a\rb": api.ErrProto, "-\n": api.ErrProto, ":x": api.ErrProto, ":-0": api.ErrProto, ":00": api.ErrProto, ":01": api.ErrProto, ":--": api.ErrProto, ":\r": api.ErrProto, ":-\r": api.ErrProto, ":+1": api.ErrProto,
		":9223372036854775808": api.ErrProto, ":-9223372036854775809": api.ErrProto, ":99999999999999999999": api.ErrProto, "$-2": api.ErrProto, "$-1x": api.ErrProto, "$-\r": api.ErrProto, "$--": api.ErrProto, "$00": api.ErrProto, "$01": api.ErrProto, "$1|ab": api.ErrProto,
		"$1048577": api.ErrProto, "+" + most + "x": api.ErrProto, "*65537": api.ErrProto, "*-1": api.ErrProto, "*02": api.ErrProto, "*2|*65535": api.ErrProto, deep + "*": api.ErrProto, "*2|+a|$1048576": api.ErrProto, "*1|x": api.ErrProto,
	} {
		if got, n, e := resp.Decode([]byte(crlf(text))); n != 0 || e != want || !resp.Same(got, api.Reply{}) {
			t.Errorf("%.40q: %d %v", text, n, e)
		}
	}
}

func TestSame(t *testing.T) {
	all := []api.Reply{{}, {Int: 1}, {Text: "x"}, number(0), number(1), text(""), text("x"), of(api.ReplyStatus, "x"), of(api.ReplyError, "x"), list(), list(number(1)), list(number(2)), list(number(1), number(1)), list(list()), {List: []api.Reply{{}}}}
	for i, a := range all {
		for j, b := range all {
			if resp.Same(a, b) != (i == j) {
				t.Error(i, j)
			}
		}
	}
	if !resp.Same(api.Reply{Kind: api.ReplyList}, api.Reply{Kind: api.ReplyList, List: []api.Reply{}}) {
		t.Error("nil and empty")
	}
}

func TestReader(t *testing.T) {
	var all []byte
	for _, l := range requests() {
		b, _ := resp.Request(l...)
		all = append(all, b...)
	}
	all = append(all, "*0\r\n"...)
	for size := 1; size < 40; size++ {
		r := resp.NewReader()
		var got [][]string
		end := api.ErrMore
		for b := all; len(b) > 0 && end == api.ErrMore; {
			n := min(size, len(b))
			piece := slices.Clone(b[:n])
			if e := r.Feed(piece); e != api.OK {
				t.Fatal(e)
			}
			clear(piece)
			b = b[n:]
			for {
				l, e := r.Next()
				if e != api.OK {
					end = e
					if l != nil {
						t.Error("texts beside an error")
					}
					break
				}
				got = append(got, l)
			}
		}
		if end != api.ErrProto || !slices.EqualFunc(got, requests(), slices.Equal) {
			t.Fatalf("pieces of %d: %q %v", size, got, end)
		}
		good, _ := resp.Request("GET")
		if e := r.Feed(good); e != api.OK {
			t.Error(e)
		}
		if _, e := r.Next(); e != api.ErrProto {
			t.Error("a broken reader goes on")
		}
	}
	r := resp.NewReader()
	if l, e := r.Next(); l != nil || e != api.ErrMore {
		t.Error(l, e)
	}
	for _, r := range []*resp.Reader{nil, {}} {
		if r.Feed([]byte("*")) != api.ErrNil {
			t.Error("Feed of none")
		}
		if l, e := r.Next(); l != nil || e != api.ErrNil {
			t.Error(l, e)
		}
	}
}

func TestNoneBeginsAnother(t *testing.T) {
	var all [][]byte
	for _, r := range replies() {
		b, _ := resp.Encode(r)
		all = append(all, b)
	}
	for i, a := range all {
		for j, b := range all {
			if i != j && bytes.HasPrefix(a, b) && !bytes.Equal(a, b) {
				t.Errorf("%q begins %q", b, a)
			}
		}
	}
}
