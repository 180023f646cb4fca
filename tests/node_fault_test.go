package tests

import (
	"strings"
	"testing"

	"loop.example/tealang/impl"
)

func mustBeFault(t *testing.T, s string, code, at int) {
	t.Helper()
	n, fault := impl.LiftParse(s)
	if fault != (impl.LiftFault{Code: code, At: at}) || !isNoNode(n) {
		t.Errorf("%.100q (%d bytes): %v, not code %d at %d, with %v", s, len(s), fault, code, at, n)
	}
}

func mustBeRead(t *testing.T, s, written string) {
	t.Helper()
	n, fault := impl.LiftParse(s)
	if fault != (impl.LiftFault{}) || !impl.LiftOk(n) || impl.LiftWrite(n) != written {
		t.Errorf("%.100q (%d bytes): %v, written as %.100q", s, len(s), fault, impl.LiftWrite(n))
	}
}

// A word missing, at the end of each beginning of a text; a word behind the end; a word that can stand nowhere, at each place.
func TestNodeWordsMissingAndWrong(t *testing.T) {
	for _, c := range allNodes() {
		words := wordForm.FindAllString(c.text, -1)
		for at := range words {
			mustBeFault(t, strings.Join(words[:at], " "), impl.LiftBadWord, at)
			mustBeFault(t, strings.Join(words[:at], "\n")+" \n", impl.LiftBadWord, at)
			for _, wrong := range wrongWords(len(c.text)) {
				mustBeFault(t, strings.Join(words[:at], " ")+" "+wrong, impl.LiftBadWord, at)
				mustBeFault(t, strings.Join(words[:at], " ")+" "+wrong+" "+strings.Join(words[at+1:], " "), impl.LiftBadWord, at)
			}
		}
		for _, behind := range []string{"drop", "end", "old", "1", "\"", `""`, "%", "emit old", "\t"} {
			if len(c.text)+1+len(behind) <= 3000 {
				mustBeFault(t, c.text+" "+behind, impl.LiftBadWord, len(words))
			}
		}
	}
}

// wrongWords can stand nowhere; they are fewer for a long text, as that takes long, and tells no more than a short one.
func wrongWords(size int) []string {
	switch {
	case size >= 2998:
		return nil
	case size > 200:
		return []string{"%"}
	}
	return []string{"%", "A", "-", "_", "~", "[1]", "{a:1}", "?1", "\t", "é", "\x00", "\xff", "#", "0x1", "abcdefghi", "drop,", "x\""}
}

// Each op of a value where an action is wanted, and the other way round.
func TestNodeWordsOfTheOtherSort(t *testing.T) {
	for i, word := range opWords() {
		if op := 5 + i; op >= impl.LiftDrop {
			mustBeFault(t, "emit "+word, impl.LiftBadWord, 1)
			mustBeFault(t, "emit form a "+word+" end", impl.LiftBadWord, 3)
			mustBeFault(t, "choose "+word+" drop drop", impl.LiftBadWord, 1)
			mustBeFault(t, "send a 1 "+word, impl.LiftBadWord, 3)
			mustBeFault(t, "take x "+word+" drop drop", impl.LiftBadWord, 2)
			mustBeFault(t, "emit add 1 "+word, impl.LiftBadWord, 3)
		} else {
			mustBeFault(t, word, impl.LiftBadWord, 0)
			mustBeFault(t, word+" 1", impl.LiftBadWord, 0)
			mustBeFault(t, "both "+word+" 1 1", impl.LiftBadWord, 1)
			mustBeFault(t, "both drop "+word, impl.LiftBadWord, 2)
			mustBeFault(t, "choose yes drop "+word, impl.LiftBadWord, 3)
			mustBeFault(t, "each x old "+word, impl.LiftBadWord, 3)
		}
	}
	for _, word := range []string{"1", "-1", `"drop"`, "yes", "no", "old", "end", "x"} {
		mustBeFault(t, word, impl.LiftBadWord, 0)
		mustBeFault(t, "both drop "+word, impl.LiftBadWord, 2)
	}
	mustBeFault(t, "emit end", impl.LiftBadWord, 1)
	mustBeFault(t, "emit not end", impl.LiftBadWord, 2)
}

// Numbers are as trees have them, and in their bounds.
func TestNodeWrongNumbers(t *testing.T) {
	for _, word := range []string{"-1", "100", "00", "01", "07", "099", "-0", "+1", "1.0", "1e1", "0x1", "1_0", "x", "yes", `"1"`, "999999999", "4294967296", "18446744073709551616", strings.Repeat("9", 100), "num", "one", "-", "1,", "١"} {
		mustBeFault(t, "fail "+word, impl.LiftBadWord, 1)
		mustBeFault(t, "both fail 1 fail "+word, impl.LiftBadWord, 4)
		mustBeFault(t, "send a "+word+" old", impl.LiftBadWord, 2)
	}
	for _, word := range []string{"0", "13", "012", "001", "12.", "257", "99"} {
		mustBeFault(t, "send a "+word+" old", impl.LiftBadWord, 2)
	}
	for _, word := range []string{"00", "01", "-01", "-0", "+1", "1000000000", "-1000000000", "0000000001", "1.5", "1e3", "0x1", "1_0", "--1", "-", "1-", "9999999999999999999999"} {
		mustBeFault(t, "emit "+word, impl.LiftBadWord, 1)
		mustBeFault(t, "emit add 1 "+word, impl.LiftBadWord, 3)
	}
	for _, s := range []string{"fail 0", "fail 99", "fail 10", "send a 1 old", "send a 12 old", "emit 0", "emit -1", "emit 999999999", "emit -999999999"} {
		mustBeRead(t, s, s)
	}
}

// Names of send, get, put, cut and form are any names; those of fold are unlike, those of form ascend.
func TestNodeWrongNames(t *testing.T) {
	for _, word := range []string{"A", "aB", "9a", "1", "a_b", "a-b", "a.b", "é", "a\x80", "abcdefghi", `"a"`, "a:", "{}", "a\t", "\"", "~"} {
		for _, op := range []string{"get", "put", "cut", "let", "case", "map", "keep", "fold"} {
			mustBeFault(t, "emit "+op+" "+word+" x old old old", impl.LiftBadWord, 2)
		}
		mustBeFault(t, "send "+word+" 1 old", impl.LiftBadWord, 1)
		mustBeFault(t, "take "+word+" 1 drop", impl.LiftBadWord, 1)
		mustBeFault(t, "each "+word+" 1 drop", impl.LiftBadWord, 1)
		mustBeFault(t, "emit fold x "+word+" 1 2 3", impl.LiftBadWord, 3)
		mustBeFault(t, "emit form "+word+" 1 end", impl.LiftBadWord, 2)
		mustBeFault(t, "emit form a 1 "+word+" 1 end", impl.LiftBadWord, 4)
	}
	mustBeFault(t, "emit fold x x old 1 2", impl.LiftBadWord, 3)
	mustBeFault(t, "emit fold x", impl.LiftBadWord, 3)
	mustBeRead(t, "emit fold x y old 1 fold x y old 1 2", "emit fold x y old 1 fold x y old 1 2")
	mustBeRead(t, "take x 1 take x x drop", "take x 1 take x x drop")
}

func TestNodeWrongForms(t *testing.T) {
	for s, at := range map[string]int{
		"emit form":                      2,
		"emit form a":                    3,
		"emit form a 1":                  4,
		"emit form a 1 b":                5,
		"emit form a end":                3,
		"emit form end end":              3,
		"emit form end 1 end":            3,
		"emit form a 1 a 2 end":          4,
		"emit form b 1 a 2 end":          4,
		"emit form aa 1 a 2 end":         4,
		"emit form b 1 aa 2 end":         4,
		"emit form a1 1 a0 2 end":        4,
		"emit form a 1 c 2 b 3 end":      6,
		"emit form a 1 c 2 d 3 b 4 end":  8,
		"emit form a 1 2 end":            4,
		"emit form 1 end":                2,
		"emit form a 1 b 2 drop":         7,
		"emit form a form b 1 end":       7,
		"emit form a form b 1 end a end": 7,
		"emit form a drop end":           3,
		"emit form END":                  2,
		"form end":                       0,
	} {
		mustBeFault(t, s, impl.LiftBadWord, at)
	}
	mustBeRead(t, "emit form b form a 1 end c form a 1 end end", "emit form b form a 1 end c form a 1 end end")
	mustBeRead(t, "both emit form end emit form end", "both emit form end emit form end")
}

// What stands at `none` and `empty` is the text of a schema, whole.
func TestNodeWrongKinds(t *testing.T) {
	wrong := append(wrongKindTexts(), "nums", "num]", "1", "?1", "old", "none", bigKindText(40), "??????num", "[[[[[[num]]]]]]", "{b:num,a:num}")
	for _, kind := range wrong {
		if strings.ContainsAny(kind, " \n\"") || kind == "" || len(kind) > 2900 {
			continue
		}
		mustBeFault(t, "emit none "+kind, impl.LiftBadWord, 2)
		mustBeFault(t, "emit some empty "+kind, impl.LiftBadWord, 3)
	}
	for s, at := range map[string]int{"emit none { }": 2, "emit none {a:num, b:num}": 2, "emit none ? num": 2, "emit none num num": 3, "emit empty [num ]": 2, `emit none "num"`: 2, "emit none": 2, "emit empty end": 2} {
		mustBeFault(t, s, impl.LiftBadWord, at)
	}
	for _, c := range allKinds() {
		for _, op := range []string{"none ", "empty "} {
			mustBeRead(t, "emit "+op+impl.KindWrite(c.kind), "emit "+op+impl.KindWrite(c.kind))
		}
	}
}

// A word that begins with a quote ends with the next one, or with the text.
func TestNodeQuotes(t *testing.T) {
	x60, x61 := strings.Repeat("x", 60), strings.Repeat("x", 61)
	for s, at := range map[string]int{
		`"`: 0, `""`: 0, `"drop"`: 0, `drop"`: 0, `drop""`: 0, `d"r"op`: 0, `drop ""`: 1, `drop "`: 1, `drop " `: 1,
		`emit "`: 1, `emit "a`: 1, `emit "a b`: 1, `emit "a b old`: 1, "emit \"a\nold": 1, `emit """`: 2, `emit """"`: 2, `emit "a""b"`: 2, `emit "a"b`: 2, `emit "a"1`: 2, `emit "a"b"c"`: 2,
		`emit a"b"`: 1, `emit 1"b"`: 1, `emit same"a" "b"`: 1, `emit same "a"b"c"`: 3, `emit same "a" b"c" "d"`: 3, `emit same "a" "b" "`: 4, `emit same "a" "b`: 3, `emit same "a " b" "`: 3, `emit same "a" "b" " "`: 4,
		"emit \"a\nb\"": 1, "emit \"a\tb\"": 1, "emit \"\x7f\"": 1, `emit "é"`: 1, "emit \"\x80\"": 1, `emit "` + x61 + `"`: 1, `emit "` + x60 + ` "`: 1,
		`get "a" old`: 0, `send "a" 1 old`: 1, `fail "1"`: 1, `emit none "num"`: 2, `emit form "a" 1 end`: 2, `emit form a 1 "end"`: 4, `emit form a "b"c"d" end`: 4, `emit same "a"not"b"`: 3,
	} {
		mustBeFault(t, s, impl.LiftBadWord, at)
	}
	for s, written := range map[string]string{
		`emit ""`:                         `emit ""`,
		`emit "` + x60 + `"`:              `emit "` + x60 + `"`,
		`emit "  a  "`:                    `emit "  a  "`,
		`emit same "a""b"`:                `emit same "a" "b"`,
		`emit same """"`:                  `emit same "" ""`,
		`emit same "a"b`:                  `emit same "a" b`,
		`emit same "a"1`:                  `emit same "a" 1`,
		`emit form a "b"end`:              `emit form a "b" end`,
		`emit same "a"not "b"`:            `emit same "a" not "b"`,
		"emit same \"a b\"\n\n  \"c  d\"": `emit same "a b" "c  d"`,
		`emit form a "x"b "y"end`:         `emit form a "x" b "y" end`,
		`choose "a"drop drop`:             `choose "a" drop drop`,
		`choose "a"emit "b"drop`:          `choose "a" emit "b" drop`,
		`emit "{a:num} drop [1] '"`:       `emit "{a:num} drop [1] '"`,
	} {
		mustBeRead(t, s, written)
	}
}

// Spaces and newlines stand between words, how many there are; nothing else does.
func TestNodeBlanks(t *testing.T) {
	for _, s := range []string{"", " ", "\n", "  \n \n", strings.Repeat(" ", 3000), strings.Repeat("\n", 3000)} {
		mustBeFault(t, s, impl.LiftBadWord, 0)
	}
	for _, s := range []string{"both drop fail 7", " both drop fail 7", "both drop fail 7 ", "\nboth\ndrop\nfail\n7\n", "  both \n\n drop  fail\n \n7   "} {
		mustBeRead(t, s, "both drop fail 7")
	}
	for _, blank := range []string{"\t", "\r", "\v", "\f", "\x00", "\x0b", "\x1f", "\x7f", "\x80", "\x85", "\xa0", "\u0085", "\u00a0", "\u2003", "\u2028", "\u3000", "\ufeff", "\ufffd", ",", ";"} {
		mustBeFault(t, blank, impl.LiftBadWord, 0)
		mustBeFault(t, blank+"drop", impl.LiftBadWord, 0)
		mustBeFault(t, "drop"+blank, impl.LiftBadWord, 0)
		mustBeFault(t, "drop "+blank, impl.LiftBadWord, 1)
		mustBeFault(t, "drop"+blank+"\n", impl.LiftBadWord, 0)
		mustBeFault(t, "fail"+blank+"7", impl.LiftBadWord, 0)
		mustBeFault(t, "fail "+blank+" 7", impl.LiftBadWord, 1)
		mustBeFault(t, "fail 7"+blank, impl.LiftBadWord, 1)
		mustBeFault(t, "emit not"+blank+"yes", impl.LiftBadWord, 1)
		mustBeFault(t, "emit old"+blank, impl.LiftBadWord, 1)
		mustBeFault(t, "emit none num"+blank, impl.LiftBadWord, 2)
		mustBeFault(t, "emit same \"a\""+blank+"1", impl.LiftBadWord, 3)
	}
}

// A text beyond the bound is too long ahead of whatever else is wrong with it; just at the bound it is not.
func TestNodeTooLong(t *testing.T) {
	for _, s := range []string{"", "drop", "%", "drop drop", "\"", "fail", strings.Repeat("both ", 30), "emit " + formWords(220, "1") + " end", "emit \"\"\"\""} {
		for _, filler := range []string{" ", "\n", "x", "\"", "%", " drop", " both", "\xff", "é"} {
			long := s + strings.Repeat(filler, 3001)
			mustBeFault(t, long[:3001], impl.LiftTooLong, 0)
			mustBeFault(t, long, impl.LiftTooLong, 0)
			if _, fault := impl.LiftParse(long[:3000]); fault.Code == impl.LiftTooLong {
				t.Errorf("%.40q is too long with 3000 bytes", long)
			}
		}
		mustBeFault(t, strings.Repeat(" ", 3001-len(s))+s, impl.LiftTooLong, 0)
	}
	for _, around := range []string{" ", "\n"} {
		mustBeRead(t, "drop"+strings.Repeat(around, 2996), "drop")
		mustBeRead(t, strings.Repeat(around, 2996)+"drop", "drop")
		mustBeRead(t, "fail"+strings.Repeat(around, 2995)+"7", "fail 7")
		mustBeFault(t, "drop"+strings.Repeat(around, 2997), impl.LiftTooLong, 0)
		mustBeFault(t, "fail"+strings.Repeat(around, 2996)+"7", impl.LiftTooLong, 0)
	}
	mustBeRead(t, longText(3000), longText(3000))
	mustBeFault(t, longText(3001), impl.LiftTooLong, 0)
	mustBeFault(t, strings.Repeat("x", 10000000), impl.LiftTooLong, 0)
}

// A text that is too long only when it is written: behind all else that is wrong with it.
func TestNodeTooLongWhenWritten(t *testing.T) {
	tight := func(size int) string {
		return strings.ReplaceAll(strings.ReplaceAll(longText(size), `" "`, `""`), `" n`, `"n`)
	}
	mustBeRead(t, tight(3000), longText(3000))
	mustBeRead(t, tight(2999), longText(2999))
	for size := 3001; size <= 3045; size++ {
		if s := tight(size); len(s) > 3000 {
			t.Fatalf("%d bytes", len(s))
		}
		mustBeFault(t, tight(size), impl.LiftTooLong, 0)
	}
	words := len(wordForm.FindAllString(longText(3001), -1))
	mustBeFault(t, tight(3001)+" drop", impl.LiftBadWord, words)
	mustBeFault(t, tight(3001)+"%", impl.LiftBadWord, words-1)
	mustBeFault(t, strings.TrimSuffix(tight(3001), " end"), impl.LiftBadWord, words-1)
	mustBeFault(t, strings.Replace(tight(3001), " z ", " Z ", 1), impl.LiftBadWord, words-3)
	mustBeFault(t, strings.Replace(tight(3001), "emit", "Emit", 1), impl.LiftBadWord, 0)
	one := strings.TrimSuffix(tight(3045), `end`)
	mustBeRead(t, strings.Replace(one, strings.Repeat("p", 56), strings.Repeat("p", 11), 1)+"end", strings.Replace(longText(3045), strings.Repeat("p", 56), strings.Repeat("p", 11), 1))
	mustBeFault(t, strings.Replace(one, strings.Repeat("p", 56), strings.Repeat("p", 12), 1)+"end", impl.LiftTooLong, 0)
}

// Texts that are too long when they are written, and too deep or with too many nodes besides.
func TestNodeTooLongWhenWrittenAndMore(t *testing.T) {
	head := func(pairs, size int) string {
		pair := `same "` + strings.Repeat("p", size) + `""` + strings.Repeat("q", size) + `"`
		return "emit " + strings.ReplaceAll(formWords(pairs, pair), `" n`, `"n`)
	}
	mustBeFault(t, head(50, 21)+"z "+strings.Repeat("not ", 22)+"yes end", impl.LiftTooDeep, 2+50*4+1+22)
	mustBeFault(t, head(50, 21)+"z "+strings.Repeat("not ", 21)+"yes end", impl.LiftTooLong, 0)
	mustBeFault(t, head(66, 15)+"z yes end", impl.LiftTooMany, 2+66*4+1)
	mustBeFault(t, head(66, 15)+"end", impl.LiftTooLong, 0)
	mustBeRead(t, head(66, 14)+"end", "emit "+formWords(66, `same "`+strings.Repeat("p", 14)+`" "`+strings.Repeat("q", 14)+`"`)+" end")
}

// The first word of a node beyond the bounds is told of ahead of what is wrong with that word, and if there is none; LiftTooDeep first.
func TestNodeTooDeepAndTooMany(t *testing.T) {
	deep, many := "emit"+strings.Repeat(" not", 23), "emit "+formWords(198, "1")+" z"
	both := "emit " + formWords(176, "1") + " z" + strings.Repeat(" not", 22)
	spread := "emit " + formWords(177, "1") + " z" + strings.Repeat(" not", 21)
	for _, next := range []string{"", " ", " yes", " yes yes", " drop", " end", " %", " \"", " A", "\n1000000000", " not", " not not", " form", " old", " abcdefghi", " \t", " none nums", " fold x x"} {
		mustBeFault(t, deep+next, impl.LiftTooDeep, 24)
		mustBeFault(t, strings.Repeat("both ", 24)+next, impl.LiftTooDeep, 24)
		mustBeFault(t, "both drop"+strings.Repeat(" both", 23)+next, impl.LiftTooDeep, 25)
		mustBeFault(t, many+next, impl.LiftTooMany, 399)
		mustBeFault(t, both+next, impl.LiftTooDeep, 2+2*176+1+22)
		mustBeFault(t, spread+next, impl.LiftTooMany, 2+2*177+1+21)
	}
	mustBeRead(t, deep[:len(deep)-4]+" yes", deep[:len(deep)-4]+" yes")
	mustBeRead(t, many[:len(many)-2]+" end", many[:len(many)-2]+" end")
	// A word that begins no node is of no level.
	mustBeFault(t, deep[:len(deep)-4]+" end", impl.LiftBadWord, 23)
	mustBeFault(t, many[:len(many)-2]+" end end", impl.LiftBadWord, 399)
	mustBeFault(t, many[:len(many)-2]+" end drop", impl.LiftBadWord, 399)
	mustBeFault(t, many[:len(many)-2]+" Z 1 end", impl.LiftBadWord, 398)
	mustBeFault(t, many[:len(many)-2], impl.LiftBadWord, 398)
	forms := "emit" + strings.Repeat(" form a", 22) + " form end" + strings.Repeat(" end", 22)
	mustBeRead(t, forms, forms)
	mustBeFault(t, strings.Replace(forms, "form end", "form b", 1), impl.LiftTooDeep, 47)
	// A fault ahead of the bounds comes first.
	mustBeFault(t, "emit same 01"+strings.Repeat(" not", 24), impl.LiftBadWord, 2)
	mustBeFault(t, "emit A"+strings.Repeat(" not", 24), impl.LiftBadWord, 1)
	mustBeFault(t, "drop "+strings.Repeat("both ", 30), impl.LiftBadWord, 1)
}
