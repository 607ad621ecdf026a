package words_test

import (
	"math"
	"slices"
	"strconv"
	"strings"
	"testing"

	"tabor/api"
	"tabor/words"
)

func name(s string) api.Word { return api.Word{Kind: api.WordName, Text: s} }
func key(s string) api.Word  { return api.Word{Kind: api.WordKey, Text: s} }
func num(n int64) api.Word   { return api.Word{Kind: api.WordInt, Int: n} }
func text(s string) api.Word { return api.Word{Kind: api.WordText, Text: s} }
func sign(s string) api.Word { return api.Word{Kind: api.WordSign, Text: s} }

const keyWords = "and break do else elseif end false for function if in local nil not or return then true while"
const allSigns = "+ - * / % # == ~= <= >= < > = ( ) { } [ ] ; : , . .."

func TestLex(t *testing.T) {
	long := strings.Repeat("a", 64)
	for s, want := range map[string][]api.Word{
		"": nil, " \t\r\n": nil, "-- all": nil, "--": nil, "-- a\n--b\n": nil,
		"local x1 = 5 -- five":   {key("local"), name("x1"), sign("="), num(5)},
		`a..b~='c\n\065'`:        {name("a"), sign(".."), name("b"), sign("~="), text("c\nA")},
		"a--b\nc":                {name("a"), name("c")},
		"a-- b\r c\nd- -e":       {name("a"), name("d"), sign("-"), sign("-"), name("e")},
		"_ _a9 ABC z" + long[1:]: {name("_"), name("_a9"), name("ABC"), name("z" + long[1:])},
		"end End ends":           {key("end"), name("End"), name("ends")},
		"0 007 9223372036854775807 00009223372036854775807": {num(0), num(7), num(math.MaxInt64), num(math.MaxInt64)},
		"1..2": {num(1), sign(".."), num(2)}, "1.2": {num(1), sign("."), num(2)}, "...": {sign(".."), sign(".")}, "....": {sign(".."), sign("..")}, "===": {sign("=="), sign("=")}, "<=>": {sign("<="), sign(">")}, "~==": {sign("~="), sign("=")}, "a>=b<c": {name("a"), sign(">="), name("b"), sign("<"), name("c")},
		`'a"b' "c'd" '' ""`: {text(`a"b`), text("c'd"), text(""), text("")}, `'\n\t\r\\\'\"'`: {text("\n\t\r\\'\"")}, `"\000\255\0651"`: {text("\x00\xffA1")}, "'\t\r\x00\xff'": {text("\t\r\x00\xff")}, "'a'b": {text("a"), name("b")}, `'--'`: {text("--")}, "'a''b'": {text("a"), text("b")}, "#t[1]": {sign("#"), name("t"), sign("["), num(1), sign("]")},
	} {
		got, at, e := words.Lex(s)
		if e != api.OK || at != 0 || !words.Same(got, want) {
			t.Errorf("%q: %v %d %v", s, got, at, e)
		}
	}
	for _, s := range strings.Fields(keyWords) {
		if got, _, _ := words.Lex(s); !slices.Equal(got, []api.Word{key(s)}) {
			t.Error(s, got)
		}
	}
	for _, s := range strings.Fields(allSigns) {
		if got, _, _ := words.Lex(s); !slices.Equal(got, []api.Word{sign(s)}) {
			t.Error(s, got)
		}
	}
	got, _, _ := words.Lex(" a == 'x' --\n 12")
	want := []api.Word{{Kind: api.WordName, Text: "a", At: 1}, {Kind: api.WordSign, Text: "==", At: 3}, {Kind: api.WordText, Text: "x", At: 6}, {Kind: api.WordInt, Int: 12, At: 14}}
	if !slices.Equal(got, want) {
		t.Error(got)
	}
}

func TestLexErrors(t *testing.T) {
	long := strings.Repeat("a", 65)
	for s, want := range map[string]int{
		"12a": 0, "'a": 0, `'\q'`: 0, `'\300'`: 0, "@": 0, "a 12_": 2, "a\n~": 2, "a ~ =": 2, "!": 0, "a && b": 2, "x = 'a\nb'": 4, `'a\`: 0, `'a\'`: 0, `"a'`: 0, `'\06'`: 0, `'\256'`: 0, `'\0a5'`: 0, "'\\\n'": 0, `'\x41'`: 0, `'\N'`: 0,
		"9223372036854775808": 0, "1 99999999999999999999": 2, "0x1": 0, long: 0, "a " + long: 2, "\x00": 0, "a\xff": 1, "\u00e9": 0, "a?": 1, "$": 0, "`": 0, "a \\": 2, "^": 0, "|": 0, "\v": 0, "-- a\n @": 6, "'a' 'b": 4, "\u00a0": 0,
	} {
		if got, at, e := words.Lex(s); got != nil || at != want || e != api.ErrWord {
			t.Errorf("%q: %v %d %v", s, got, at, e)
		}
	}
	if got, at, e := words.Lex(strings.Repeat(" ", api.MaxText) + "@"); got != nil || at != 0 || e != api.ErrLong {
		t.Error(at, e)
	}
	if got, at, e := words.Lex(strings.Repeat(" ", api.MaxText-1) + "@"); got != nil || at != api.MaxText-1 || e != api.ErrWord {
		t.Error(at, e)
	}
	if got, _, e := words.Lex(strings.Repeat("a ", api.MaxText/2)); len(got) != api.MaxText/2 || e != api.OK {
		t.Error(len(got), e)
	}
}

func TestPrint(t *testing.T) {
	for want, l := range map[string][]api.Word{
		"": nil, "a": {name("a")}, "local x = 5": {key("local"), name("x"), sign("="), num(5)}, `'a\'\\\n' .. 0`: {text("a'\\\n"), sign(".."), num(0)}, "- - a": {sign("-"), sign("-"), name("a")}, ". ..": {sign("."), sign("..")}, "9223372036854775807": {{Kind: api.WordInt, Int: math.MaxInt64, At: 77}},
	} {
		if got, e := words.Print(l...); got != want || e != api.OK {
			t.Errorf("%q: %q %v", want, got, e)
		}
	}
	for i, w := range []api.Word{
		{}, {Kind: -1, Text: "a"}, {Kind: 5, Text: "a"}, name("end"), name("1a"), name("a b"), name("a-"), name(strings.Repeat("a", 65)), name("\xff"), {Kind: api.WordName, Text: "a", Int: 1}, key("x"), key(""), key("End"), {Kind: api.WordKey, Text: "end", Int: 1},
		num(-1), num(math.MinInt64), {Kind: api.WordInt, Text: "1"}, {Kind: api.WordText, Int: 1}, sign(""), sign("~"), sign("==="), sign("a"), sign("!"), {Kind: api.WordSign, Text: "+", Int: 1},
	} {
		if s, e := words.Print(name("a"), w); s != "" || e != api.ErrArg {
			t.Error(i, s, e)
		}
	}
	most := strings.Repeat("a", api.MaxText-2)
	if s, e := words.Print(text(most)); len(s) != api.MaxText || e != api.OK {
		t.Error(len(s), e)
	}
	for i, l := range [][]api.Word{{text(most + "a")}, {text(most), name("a")}, {text(most[1:] + "\n")}, slices.Repeat([]api.Word{name("a")}, api.MaxText/2+1)} {
		if s, e := words.Print(l...); s != "" || e != api.ErrLong {
			t.Error(i, len(s), e)
		}
	}
	if s, e := words.Print(text(most+"a"), api.Word{}); s != "" || e != api.ErrArg {
		t.Error(e)
	}
}

func TestQuote(t *testing.T) {
	for s, want := range map[string]string{"": "''", "a b": "'a b'", "'": `'\''`, `\`: `'\\'`, `"`: `'"'`, "\n\t\r": `'\n\t\r'`, "\x00\x1f\x7f\xff": `'\000\031\127\255'`, "\u00e9": `'\195\169'`, " ~": "' ~'"} {
		if got := words.Quote(s); got != want {
			t.Errorf("%q: %s", s, got)
		}
	}
	all := make([]byte, 256)
	for i := range all {
		all[i] = byte(i)
	}
	if l, _, e := words.Lex(words.Quote(string(all))); e != api.OK || !words.Same(l, []api.Word{text(string(all))}) {
		t.Error(l, e)
	}
}

func TestName(t *testing.T) {
	for s, want := range map[string]bool{"a": true, "_": true, "A9_z": true, strings.Repeat("a", 64): true, "Z": true, "KEYS": true, "": false, "9": false, "a ": false, "a.b": false, strings.Repeat("a", 65): false, "\u00e9": false, "a\x00": false, "@": false, "[": false, "`": false, "{": false} {
		if words.Name(s) != want {
			t.Errorf("%q", s)
		}
	}
	for _, s := range strings.Fields(keyWords) {
		if words.Name(s) || !words.Name(s+"s") {
			t.Error(s)
		}
	}
}

func TestSame(t *testing.T) {
	all := [][]api.Word{nil, {name("a")}, {name("b")}, {text("a")}, {num(1)}, {num(2)}, {name("a"), name("b")}, {name("b"), name("a")}}
	for i, a := range all {
		for j, b := range all {
			if words.Same(a, b) != (i == j) {
				t.Error(i, j)
			}
		}
	}
	if !words.Same([]api.Word{{Text: "a", At: 1}}, []api.Word{{Text: "a", At: 2}}) || !words.Same(nil, []api.Word{}) {
		t.Error("At, nil and empty")
	}
}

func TestRound(t *testing.T) {
	x := uint32(5)
	next := func(n int) int {
		x = x*1664525 + 1013904223
		return int(x>>8) % n
	}
	keyList, signList := strings.Fields(keyWords), strings.Fields(allSigns)
	for range 2000 {
		var l []api.Word
		for range next(8) {
			switch next(5) {
			case 0:
				l = append(l, name("n"+strconv.Itoa(next(1000))))
			case 1:
				l = append(l, key(keyList[next(len(keyList))]))
			case 2:
				l = append(l, num(int64(next(1<<20))<<next(40)))
			case 3:
				l = append(l, text(string([]byte{byte(next(256)), byte(next(256)), '0'})))
			default:
				l = append(l, sign(signList[next(len(signList))]))
			}
		}
		s, e := words.Print(l...)
		got, at, f := words.Lex(s)
		if e != api.OK || f != api.OK || at != 0 || !words.Same(got, l) {
			t.Fatalf("%q: %v %v %v", s, l, got, f)
		}
		if again, _ := words.Print(got...); again != s {
			t.Fatalf("%q: %q", s, again)
		}
	}
}
