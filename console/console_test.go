package console_test

import (
	"slices"
	"strconv"
	"strings"
	"testing"

	"tabor/api"
	"tabor/console"
)

func TestSpell(t *testing.T) {
	for s, want := range map[string]string{"": `""`, "a b": `"a b"`, "\"": `"\x22"`, `\`: `"\x5c"`, "+OK\r\n": `"+OK\x0d\x0a"`, "\x00\x1f\x7f\xff~ ": `"\x00\x1f\x7f\xff~ "`, "\u00e9": `"\xc3\xa9"`} {
		if got := console.Spell(s); got != want {
			t.Errorf("%q: %s", s, got)
		}
	}
	for c := range 256 {
		s := string([]byte{byte(c), 'x', byte(c)})
		if l, e := console.Words(console.Spell(s)); e != api.OK || !slices.Equal(l, []string{s}) {
			t.Errorf("%q: %q %v", s, l, e)
		}
	}
}

func TestWords(t *testing.T) {
	for line, want := range map[string][]string{
		"a": {"a"}, "do 0 SET": {"do", "0", "SET"}, `"a"`: {"a"}, `""`: {""}, `"a b" c "" d`: {"a b", "c", "", "d"}, `\x41 a\b`: {`\x41`, `a\b`}, `"\x00\xff\x22\x5c"`: {"\x00\xff\"\\"}, "!~#": {"!~#"}, `"\x7f"`: {"\x7f"}, "'a b'": {"'a", "b'"},
	} {
		if got, e := console.Words(line); e != api.OK || !slices.Equal(got, want) {
			t.Errorf("%s: %q %v", line, got, e)
		}
	}
	for _, line := range []string{"", " ", " a", "a ", "a  b", `"a`, `"`, `a"b`, `"a"b`, `"a""b"`, "a\tb", "a\r", "\x7f", "\xff", "a\x00", `"\x41"`, `"\x20"`, `"\xFF"`, `"\xf"`, `"\x`, `"\x0`, `"\y00"`, `"\"`, `"\x0g"`, `"\x+1"`, "\"\n\"", "\"\x00\"", "\"\xff\"", `"\x7e"`, "a\nb", `a "`, `\"`} {
		if got, e := console.Words(line); e != api.ErrLine || got != nil {
			t.Errorf("%q: %q %v", line, got, e)
		}
	}
}

func TestPlain(t *testing.T) {
	for want, words := range map[string][]string{"": nil, "a b": {"a", "b"}, `""`: {""}, `do 0 "x y" ""`: {"do", "0", "x y", ""}, `a\b "\x22" "\x7f" '`: {`a\b`, "\"", "\x7f", "'"}} {
		if got := console.Plain(words...); got != want {
			t.Errorf("%q: %s", words, got)
		}
	}
	x := uint32(3)
	for range 3000 {
		var l []string
		for range 1 + x>>20%4 {
			x = x*1664525 + 1013904223
			b := make([]byte, x>>10%5)
			for i := range b {
				x = x*1664525 + 1013904223
				b[i] = byte(x >> 24)
				if x>>8%2 == 0 {
					b[i] = "ab \"\\x09"[x>>16%8]
				}
			}
			l = append(l, string(b))
		}
		line := console.Plain(l...)
		got, e := console.Words(line)
		if e != api.OK || !slices.Equal(got, l) || console.Plain(got...) != line {
			t.Fatalf("%q: %s %q %v", l, line, got, e)
		}
	}
}

// run tells the answers to lines.
func run(t *testing.T, lines ...string) []string {
	t.Helper()
	got, e := console.Run(strings.Join(lines, "\n"))
	if e != api.OK || len(got) > 0 && !strings.HasSuffix(got, "\n") {
		t.Fatal(e)
	}
	return strings.Split(strings.TrimSuffix(got, "\n"), "\n")
}

// play runs lines, each of which has its answer behind it.
func play(t *testing.T, l ...string) {
	t.Helper()
	var lines, want []string
	for i := 0; i < len(l); i += 2 {
		lines, want = append(lines, l[i]), append(want, l[i+1])
	}
	got := run(t, lines...)
	for i := range want {
		if i >= len(got) || got[i] != want[i] {
			t.Errorf("%d %s: %s, not %s", i, lines[i], got[i], want[i])
		}
	}
	c := console.New()
	for i := range lines {
		answer, e := c.Line(lines[i])
		if e == api.ErrLine {
			if answer != "" {
				t.Error(i, answer)
			}
			answer = "error 360"
		}
		if answer != want[i] {
			t.Errorf("Line %d %s: %s", i, lines[i], answer)
		}
	}
}

func TestOrders(t *testing.T) {
	play(t, `do 0 SET a "x y"`, `"+OK\x0d\x0a"`, "do 1 GET a", `"$3\x0d\x0ax y\x0d\x0a"`, "now", "0", "feed 3 *0", "ok", "step 3", "ok", "state", "alive 0 3", "out 3", `"-ERR protocol\x0d\x0a"`, "out 2", `""`, "step 3", "error 340", "do 3 GET a", "error 340", "tick 7", "ok", "tick 255", "ok", "now", "262",
		"halt 0", "ok", "do 0 SET a 2", "error 7", "do 0 GET a", "error 8", "state", "dead 0 3", "step 3", "error 8", "rewrite", "error 8", "crash", "ok", "state", "alive 1 -", "out 3", `""`, "do 0 GET a", `"$3\x0d\x0ax y\x0d\x0a"`, "now", "262")
	play(t, "files", "log 0 0 00000000", "feed 0 \"*1\\x0d\\x0a$6\\x0d\\x0aDBSIZE\\x0d\"", "ok", "step 0", "ok", "out 0", `""`, "do 0 KEYS", `"-ERR protocol\x0d\x0a"`, "state", "alive 0 0", "feed 1 x", "ok", "feed 12 x", "ok", "step 12", "ok", "step 1", "ok", "state", "alive 0 0,1,12")
	play(t, "feed 0 \"*1\\x0d\\x0a$6\\x0d\\x0aDBSIZE\\x0d\\x0a*1\\x0d\\x0a$4\\x0d\\x0a\"", "ok", "do 0 SET a 1", `":0\x0d\x0a"`, "step 0", "ok", "out 0", `":0\x0d\x0a-ERR protocol\x0d\x0a"`)
	play(t, "do 5 SET a 1", `"+OK\x0d\x0a"`, "files", "log 46 46 5309758e", "halt 1", "ok", "do 5 SET b 2", "error 7", "files", "log 92 46 829520c0", "crash 255", "ok", "do 5 GET b", `"$1\x0d\x0a2\x0d\x0a"`, "rewrite", "ok", "crash 1 2 3", "ok", "state", "alive 2 -")
	play(t, "step 16", "error 360", "do 15 GET a", `"$-1\x0d\x0a"`, "step 15", "ok", "out 15", `"$-1\x0d\x0a"`, "feed 15 *", "ok", "foo", "error 360", "do 0", "error 360", "do", "error 360", "do x GET", "error 360", "do -1 GET", "error 360", "do 00 GET", "error 360", "do +1 GET", "error 360", "do 16 GET", "error 360", "feed 0", "error 360", "feed 0 a b", "error 360", "feed 16 a", "error 360", "step", "error 360", "step 0 0", "error 360", "step x", "error 360", "tick", "error 360", "tick 256", "error 360", "tick -1", "error 360", "tick 01", "error 360", "tick 1 2", "error 360", "halt 256", "error 360", "halt", "error 360", "crash x", "error 360", "crash 256", "error 360", "crash -1", "error 360", "rewrite 1", "error 360",
		"out", "error 360", "out 16", "error 360", "out 0 0", "error 360", "now 1", "error 360", "files x", "error 360", "state x", "error 360", "Now", "error 360", " now", "error 360", "now ", "error 360", "do  0 GET a", "error 360", `"now"`, "0", `"do" "0" "DBSIZE"`, `":0\x0d\x0a"`, `"" now`, "error 360", "feed 0 "+strings.Repeat("x", 255), "ok", "feed 0 "+strings.Repeat("x", 256), "error 350", "crash 1 2 3 4", "error 350", "now\r", "error 360", "tick 99999999999999999999", "error 360", "state", "alive 0 -")
	long := strings.Repeat("x", 3000)
	play(t, "do 0 SET a "+long, `"+OK\x0d\x0a"`, "do 0 STRLEN a", `":3000\x0d\x0a"`, "do 1 GET a", `"$3000\x0d\x0a`+long+`\x0d\x0a"`, "do 2 EVAL \"while true do call('INCR', 'n') end\" 0", `"-ERR fuel\x0d\x0a"`, "do 2 EVAL \"local function f() return f() end return f()\" 0", `"-ERR depth\x0d\x0a"`, "do 2 EVAL \"local t = {} for i = 1, 30000 do t[1] = nil t[1] = 1 end\" 0", `"-ERR fuel\x0d\x0a"`, "do 2 EVAL \"local t = '' for i = 1, 3000 do t = t .. 'xxxxxxxxxxxxxxxx' end\" 0", `"-ERR memory\x0d\x0a"`)
}

func TestRun(t *testing.T) {
	for text, want := range map[string]string{"": "", "\n\n": "", "now": "0\n", "now\n": "0\n", "\nnow\n\n\ntick 5\nnow": "0\nok\n5\n", "x\n\ny": "error 360\nerror 360\n"} {
		if got, e := console.Run(text); got != want || e != api.OK {
			t.Errorf("%q: %q %v", text, got, e)
		}
	}
	most := strings.Repeat("now\n", api.MaxLines-1) + "now"
	if got, e := console.Run(most); got != strings.Repeat("0\n", api.MaxLines) || e != api.OK {
		t.Error(e)
	}
	for i, text := range []string{most + "\nnow", most + "\n", strings.Repeat("\n", api.MaxLines), strings.Repeat("\n", api.MaxLines+2), strings.Repeat(" ", api.MaxText+1), most + "\n\n" + strings.Repeat("x", api.MaxText)} {
		if got, e := console.Run(text); got != "" || e != api.ErrLong {
			t.Error(i, e)
		}
	}
	if got, e := console.Run(strings.Repeat("\n", api.MaxLines-1)); got != "" || e != api.OK {
		t.Error(got, e)
	}
	if got, e := console.Run(strings.Repeat("x", api.MaxText)); got != "error 360\n" || e != api.OK {
		t.Error(got, e)
	}
	texts := []string{"do 0 SET a 1", "halt 0\ndo 0 INCR a\n", "crash\ndo 0 GET a\nfoo", "tick 9\nnow\nfiles\nstate"}
	for _, a := range texts {
		for _, b := range texts {
			first, _ := console.Run(a)
			if both, _ := console.Run(a + "\n" + b); !strings.HasPrefix(both, first) {
				t.Errorf("%q %q", a, b)
			}
		}
	}
}

func TestNil(t *testing.T) {
	for _, c := range []*console.Console{nil, {}} {
		for _, line := range []string{"", "now", "foo", "do 0 GET a"} {
			if answer, e := c.Line(line); answer != "" || e != api.ErrNil {
				t.Error(line, answer, e)
			}
		}
	}
	c := console.New()
	if answer, e := c.Line(""); answer != "" || e != api.ErrLine {
		t.Error(answer, e)
	}
	for i := range 3 {
		if answer, e := c.Line("do 0 INCR n"); answer != `":`+strconv.Itoa(i+1)+`\x0d\x0a"` || e != api.OK {
			t.Error(answer, e)
		}
	}
}
