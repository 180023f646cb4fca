package tests

import (
	"strconv"
	"testing"

	"loop.example/tealang/impl"
)

// ordinaryMeanings are values of someBound with what they mean.
func ordinaryMeanings() map[string]string {
	return map[string]string{
		"1": "1", "-7": "-7", `"a b"`: `"a b"`, `""`: `""`, "yes": "yes", "no": "no", "n": "7", "l": "[3,-4,5]", "o": `{a:1,b:"x"}`,
		"none num": "~", "none {a:num}": "~", "none ?????num": "~", "empty [text]": "[]", "empty [[[[[num]]]]]": "[]",
		"some n": "?7", "some w": "?~", "some some l": "??[3,-4,5]", "one l": "[[3,-4,5]]", "one w": "[~]", "one one yes": "[[yes]]",
		"add 2 3": "5", "add n -7": "0", "add -2 -3": "-5", "sub 3 5": "-2", "sub z n": "-7", "sub -3 -5": "2", "mul -3 5": "-15", "mul -3 -5": "15", "mul n z": "0", "mul z -5": "0",
		"div 7 2": "3", "div -7 2": "-3", "div 7 -2": "-3", "div -7 -2": "3", "div 6 3": "2", "div -6 3": "-2", "div 0 5": "0", "div 1 2": "0", "div -1 2": "0", "div 5 1": "5", "div 5 -1": "-5",
		"rem 7 2": "1", "rem -7 2": "-1", "rem 7 -2": "1", "rem -7 -2": "-1", "rem 6 3": "0", "rem -6 3": "0", "rem 2 7": "2", "rem -2 7": "-2", "rem 2 -7": "2", "rem 0 -7": "0", "rem 5 1": "0",
		"less 1 2": "yes", "less 2 1": "no", "less 2 2": "no", "less -3 2": "yes", "less -2 -3": "no", "less 9 10": "yes",
		`less "" "a"`: "yes", `less "a" ""`: "no", `less "" ""`: "no", `less "a" "a"`: "no", `less "ab" "b"`: "yes", `less "b" "ab"`: "no", `less "a" "ab"`: "yes", `less "ab" "a"`: "no", `less "B" "a"`: "yes", `less "a" "B"`: "no", `less "10" "9"`: "yes", `less " " "!"`: "yes", `less "~" "z"`: "no",
		"same 1 1": "yes", "same 1 2": "no", `same 1 "1"`: "no", `same "a" "a"`: "yes", `same "a" "b"`: "no", "same l l": "yes", "same l k": "no", "same k empty text": "yes", "same w none text": "yes", "same m w": "no", "same some 1 1": "no", "same one 1 some 1": "no",
		"same o put a o 1": "yes", "same o put a o 2": "no", "same o cut b o": "no", "same q form end": "yes", "same f 1": "no", "same f yes": "yes", "same f g": "no", "same w g": "no", "same k q": "no", `same "yes" yes`: "no", "same join one 1 one 2 join one 2 one 1": "no",
		"and no no": "no", "and no yes": "no", "and yes no": "no", "and yes yes": "yes", "or no no": "no", "or no yes": "yes", "or yes no": "yes", "or yes yes": "yes", "not yes": "no", "not no": "yes", "not not f": "yes",
		"if yes 1 2": "1", "if no 1 2": "2", `if f "a" l`: `"a"`, `if g "a" l`: "[3,-4,5]",
		"let x 1 add x x": "2", "let x l size x": "3", "let x let x n add x 1 add x 1": "9",
		"get a o": "1", "get b o": `"x"`, "get add form add 3 end": "3",
		"put a o 2": `{a:2,b:"x"}`, "put b o 2": "{a:1,b:2}", "put c o yes": `{a:1,b:"x",c:yes}`, "put aa o 0": `{a:1,aa:0,b:"x"}`, "put a0 o 0": `{a:1,a0:0,b:"x"}`, "put end q 1": "{end:1}", "put add q 1": "{add:1}", "put a o o": `{a:{a:1,b:"x"},b:"x"}`, "put c o o": `{a:1,b:"x",c:{a:1,b:"x"}}`,
		"cut a o": `{b:"x"}`, "cut b o": "{a:1}", "cut a cut b o": "{}", "cut end put end o 1": `{a:1,b:"x"}`,
		"form end": "{}", "form a n b l c form d w end end": "{a:7,b:[3,-4,5],c:{d:~}}", "form add 1 yes 2 end": "{add:1,yes:2}",
		"at l 0": "3", "at l 1": "-4", "at l 2": "5", "at one o 0": `{a:1,b:"x"}`,
		"size l": "3", "size k": "0", "size s": "3", "size e": "0", "size one l": "1", `size "a b"`: "3",
		"join l one 9": "[3,-4,5,9]", "join one 9 l": "[9,3,-4,5]", "join k k": "[]", "join l k": "[3,-4,5]", "join k l": "[3,-4,5]", "join l l": "[3,-4,5,3,-4,5]", `join one 1 one "a"`: `[1,"a"]`, `join s "d"`: `"abcd"`, `join "d" s`: `"dabc"`, "join e e": `""`, "join s e": `"abc"`, "join e s": `"abc"`, `join "1" "2"`: `"12"`,
		"part l 0 3": "[3,-4,5]", "part l 1 2": "[-4]", "part l 1 3": "[-4,5]", "part l 0 0": "[]", "part l 3 3": "[]", "part k 0 0": "[]", "part s 0 3": `"abc"`, "part s 1 2": `"b"`, "part s 0 2": `"ab"`, "part s 2 2": `""`, "part s 3 3": `""`, "part e 0 0": `""`,
		"show n": `"7"`, "show 0": `"0"`, "show -12": `"-12"`, "show 999999999": `"999999999"`, "show -999999999": `"-999999999"`,
		`read "12"`: "?12", `read "-5"`: "?-5", `read "0"`: "?0", `read "a"`: "~", "read e": "~", "read show n": "?7",
		"else m 9": "4", "else w 9": "9", `else w "a"`: `"a"`, "else some w 1": "~", "else some l k": "[3,-4,5]", "else none text l": "[3,-4,5]", "else else some m w 1": "4",
		"case x m add x 1 0": "5", "case x w x 0": "0", "case x some w x 1": "~", "case x m l o": "[3,-4,5]", "case x w l o": `{a:1,b:"x"}`, "case x some o get a x 0": "1",
		"map x l mul x x": "[9,16,25]", "map x k x": "[]", `map x l "a"`: `["a","a","a"]`, `map x l if less x 0 "a" x`: `[3,"a",5]`, "map x l one x": "[[3],[-4],[5]]", "map x l map y l add x y": "[[6,-1,8],[-1,-8,1],[8,1,10]]",
		"keep x l less 0 x": "[3,5]", "keep x l no": "[]", "keep x l yes": "[3,-4,5]", "keep x k x": "[]", "keep x join l l less x 4": "[3,-4,3,-4]", "keep x one o f": `[{a:1,b:"x"}]`,
		"fold a x l 0 add a x": "4", "fold a x l 0 add mul a 2 x": "9", `fold a x l "" join a show x`: `"3-45"`, "fold a x l k join one x a": "[5,-4,3]", "fold a x l k join a one x": "[3,-4,5]", "fold a x l 0 x": "5", "fold a x l 0 a": "0", "fold a x l 8 sub a 1": "5", `fold a x l 0 "q"`: `"q"`, "fold a x k 9 a": "9", "fold x a l 0 sub a x": "12",
	}
}

// What each op means, of kids of the sorts that it wants.
func TestRunValues(t *testing.T) {
	ops := map[int]bool{}
	for s, answer := range ordinaryMeanings() {
		mustMean(t, someBound(), s, answer)
		if said := meaningAsSaid(someBound(), valueOf(s)); said != answer {
			t.Errorf("%s: the cases themselves have %s and %s", s, said, answer)
		}
		ops[valueOf(s).Op] = true
	}
	if len(ops) != impl.LiftFold {
		t.Errorf("%d ops", len(ops))
	}
}

// Values that stop, with the first code as the kids are done.
func TestRunValuesThatStop(t *testing.T) {
	for s, code := range map[string]int{
		"zzz": 6, "add zzz 1": 6, "add 1 zzz": 6, `add 1 "a"`: 6, `add "a" 1`: 6, "sub l 1": 6, "mul 1 f": 6, "div m 1": 6, "rem 1 o": 6,
		"div 1 0": 2, "rem 1 0": 2, "div 0 0": 2, "rem 0 z": 2, "div -5 z": 2, "add 999999999 1": 1, "sub -999999999 1": 1, "mul 40000 40000": 1,
		`less 1 "a"`: 6, `less "a" 1`: 6, "less f g": 6, "less l l": 6, "less o o": 6, "less m m": 6, "less 1 f": 6,
		"not 1": 6, "not w": 6, "and 1 yes": 6, "and yes 1": 6, "or 0 yes": 6, "or no 1": 6, `if 1 2 3`: 6, "if m 2 3": 6,
		"get a 1": 6, "get a l": 6, "get c o": 6, "get a q": 6, "get aa o": 6, "get a m": 6, "cut c o": 6, "cut a q": 6, "cut a s": 6, "cut a cut a o": 6, "put a 1 1": 6, "put a l 1": 6, "put a some o 1": 6,
		"at s 0": 6, "at o 0": 6, `at l "0"`: 6, "at l f": 6, "at l 3": 3, "at l -1": 3, "at k 0": 3, "at l 999999999": 3, "at l -999999999": 3,
		"size n": 6, "size o": 6, "size f": 6, "size m": 6, "join l s": 6, "join s l": 6, "join n n": 6, "join o o": 6, "join f f": 6, "join m m": 6, "join s n": 6, "join l n": 6,
		"part n 0 0": 6, "part o 0 0": 6, `part l "" 0`: 6, "part l 0 s": 6, "part s f 0": 6, "part l 0 4": 3, "part l -1 2": 3, "part l 2 1": 3, "part l 4 4": 3, "part s 0 4": 3, "part s -1 0": 3, "part s 3 2": 3, "part k 0 1": 3, "part e 1 1": 3,
		"show s": 6, "show f": 6, "show m": 6, "read n": 6, "read l": 6, "read m": 6, "else n 1": 6, "else l 1": 6, "else o 1": 6, "case x n 1 1": 6, "case x l 1 1": 6,
		"map x s 1": 6, "map x o 1": 6, "map x m 1": 6, "keep x s yes": 6, "keep x l x": 6, "keep x l m": 6, `keep x l if less x 0 "a" yes`: 6, "fold a x s 0 0": 6, "fold a x m 0 0": 6, "fold a x l no add a x": 6, `fold a x l 0 if less x 0 "q" add a x`: 6,
		"map x l div 1 add x 4": 2, "keep x l same 1 div 1 add x 4": 2, "fold a x l 0 div 1 add x 4": 2, "map x l at k x": 3, "fold a x l 999999999 add a x": 1,
		"some zzz": 6, "one div 1 0": 2, "form a 1 b div 1 0 c zzz end": 2, "form a zzz b div 1 0 end": 6, "let x zzz 1": 6, "let x div 1 0 1": 2, "let x 1 zzz": 6,
	} {
		mustMean(t, someBound(), s, "!"+strconv.Itoa(code))
		// Wherever it stands, it stops all.
		for _, around := range []string{"some ", "form a 1 b ", "add 1 ", "if yes ", "let y 1 ", "size one ", "map y l ", "fold u y l 0 "} {
			rest := map[string]string{"form a 1 b ": " end", "if yes ": " 1"}[around]
			mustMean(t, someBound(), around+s+rest, "!"+strconv.Itoa(code))
		}
	}
}

func TestRunCodes(t *testing.T) {
	if impl.StopOver != 1 || impl.StopZero != 2 || impl.StopIndex != 3 || impl.StopBig != 4 || impl.StopRefused != 5 || impl.StopBroken != 6 {
		t.Error("codes are not those of the document")
	}
}
