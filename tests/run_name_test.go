package tests

import (
	"testing"

	"loop.example/tealang/impl"
)

// Names that are bound several times, in vars and by nodes within each other: the last one that was bound counts.
func TestRunNamesBoundAgain(t *testing.T) {
	vars := boundTo("x=1", `x="b"`, "l=[1,2,3]", "m=?4", "y=yes", "y=2")
	for s, answer := range map[string]string{
		"x": `"b"`, "y": "2", "add y 1": "3", "add x 1": "!6",
		"let x 1 x": "1", "let x 1 let x yes x": "yes", "let x 1 let x add x 1 add x 1": "3", "let x x x": `"b"`, "let x one x at x 0": `"b"`,
		"let x 1 let y x let x no y": "1", "let x 1 add x let x 5 x": "6", "let x 1 add let x 5 x x": "6", "let x 1 add let x add x 5 x x": "7", "let l 1 add l l": "2", "let l l let l at l 0 l": "1",
		"map x l x": "[1,2,3]", "map l l l": "[1,2,3]", "map l l map x one l add x l": "[[2],[4],[6]]", "map x l let x add x 1 x": "[2,3,4]", "map x l let y x add let x 7 x y": "[8,9,10]", "let x yes map x l x": "[1,2,3]", "map x l map x one mul x 2 x": "[[2],[4],[6]]", "map x l fold x z l x add x z": "[7,8,9]", "map x l add x fold z x l 0 x": "[4,5,6]", "map x map x l add x 1 add x 1": "[3,4,5]",
		"keep x l less x 2": "[1]", "keep l l less l 3": "[1,2]", "keep x l less size keep x l less x 2 x": "[2,3]", "keep x l let x 1 yes": "[1,2,3]",
		"case x m x 1": "4", "case m m m 1": "4", "case x none num 1 x": `"b"`, "case x some m case x x x 1 1": "4", "case x some m add 1 case x x x 1 1": "5", "case x m case x none num x x 1": "4",
		"fold x y l 0 add x y": "6", "fold y x l 0 add mul y 10 x": "123", "fold x y l y add x y": "8", "fold x y l x x": `"b"`, "fold l m l 0 add l m": "6", "fold m l l 0 add m l": "6", "fold x y l 0 fold x z l x add x y": "18", "fold x y l 0 add x fold y x l 0 add y 1": "9", "fold a b l 0 add a fold b a l b add b a": "24", "fold x y one x y add y size x": "!6", "fold x y one x y add x size y": "3",
		"add let x 1 x let y x size y": "2", "form a let x 1 x b x c let x 3 add x let x 4 x end": `{a:1,b:"b",c:7}`,
	} {
		mustMean(t, vars, s, answer)
		if said := meaningAsSaid(vars, valueOf(s)); said != answer {
			t.Errorf("%s: the cases themselves have %s and %s", s, said, answer)
		}
	}
}

// Names that are bound beside and not around a node, or for another kid of the node that binds them, are not bound there.
func TestRunNamesBoundBeside(t *testing.T) {
	vars := boundTo("l=[1,2]", "m=?4", "w=~")
	for _, s := range []string{
		"add let x 1 x x", "add x let x 1 x", "let x x 1", "let x let y 1 y y", "form a let x 1 x b x end", "form a map x l x b let y 1 y c y end",
		"map x x x", "map x one x 1", "join map x l x one x", "map x map y l y y", "keep x x yes", "keep x keep y l yes less y 1", "case x x 1 1", "case x w 1 x", "case x case y m some y m y x", "else w let x 1 y",
		"fold a x a 0 0", "fold a x x 0 0", "fold a x l a a", "fold a x l x 0", "add fold a x l 0 a a", "add fold a x l 0 a x", "if let f yes f f 1", "same let x 1 x let y 1 x", "size map x l map y l x1", "old",
	} {
		mustMean(t, vars, s, "!6")
	}
	mustMean(t, vars, "let x let y 1 y x", "1")
	mustMean(t, vars, "case x m 1 x", "1")
	mustMean(t, vars, "fold a x empty num 0 y", "0")
}

// Vars may have any names, those of ops too; no value can have such a name.
func TestRunVarsOfWords(t *testing.T) {
	for _, word := range append(opWords(), "yes", "no", "end", "num", "old", "abcdefg9", "a") {
		if got := meaning([]impl.LiftBound{{Name: word, Tree: num(3)}}, valueOf("form a 1 end")); got != "{a:1}" {
			t.Errorf("%s: %s", word, got)
		}
	}
	mustMean(t, boundTo(`num="t"`, "abcdefg9=yes", "old=5"), "form a num b abcdefg9 c old end", `{a:"t",b:yes,c:5}`)
	mustMean(t, nil, "form end", "{}")
	mustMean(t, []impl.LiftBound{}, "form end", "{}")
	mustMean(t, nil, "old", "!6")
	var many []impl.LiftBound
	for i := range 5000 {
		many = append(many, impl.LiftBound{Name: "v" + string(rune('a'+i%26)), Tree: num(i)})
	}
	mustMean(t, many, "va", "4992")
	mustMean(t, many, "vz", "4991")
}

// Names in upcasters: `old` is bound to the body, and may be bound again.
func TestRunNamesInActions(t *testing.T) {
	const old = "{l:[1,2],n:7,w:[{n:3},{n:4}]}"
	for s, answer := range map[string]string{
		"emit old": old, "take x old emit x": old, "take old 1 emit form n old end": "{n:1}", "take old get n old emit form n old end": "{n:7}", "take old old emit form n get n old end": "{n:7}",
		"each old get l old emit form n old end": "{n:1} {n:2}", "each old get w old emit old": "{n:3} {n:4}", "each x get w old emit form n add get n x get n old end": "{n:10} {n:11}",
		`take x 1 take x "a" emit form s x end`: `{s:"a"}`, "take x 5 each x get w old emit x": "{n:3} {n:4}", "each x get w old take x get n x emit form n x end": "{n:3} {n:4}",
		"both take x 1 emit form n x end emit form n x end": "!6", "both emit form n x end take x 1 drop": "!6", "both each x get w old emit x emit x": "!6", "take x x drop": "!6", "each x x drop": "!6", "choose yes emit form n x end take x 1 drop": "!6",
		"take x 1 both take x 2 emit form n x end emit form n x end":                            "{n:2} {n:1}",
		"take x 1 both each x get l old emit form n x end emit form n x end":                    "{n:1} {n:2} {n:1}",
		"each x get l old both take x at get w old 0 emit x emit form n x end":                  "{n:3} {n:1} {n:3} {n:2}",
		"each x get l old each y get l old emit form x x y y end":                               "{x:1,y:1} {x:1,y:2} {x:2,y:1} {x:2,y:2}",
		"each x get l old each x get l old emit form n x end":                                   "{n:1} {n:2} {n:1} {n:2}",
		"each x get l old take y mul x 10 each z get l old emit form n add y z end":             "{n:11} {n:12} {n:21} {n:22}",
		"take x get l old each x x both emit form n x end take x add x 5 emit form n x end":     "{n:1} {n:6} {n:2} {n:7}",
		"both take old form n 1 end emit old both emit old take old form n 2 end emit old":      "{n:1} " + old + " {n:2}",
		"take f less 1 2 choose f choose not f fail 1 emit form n let f 3 f end fail 2":         "{n:3}",
		"each x get l old emit form m map x get l old add x 1 n x end":                          "{m:[2,3],n:1} {m:[2,3],n:2}",
		"each x get l old emit form m fold x y get l old x add x y n x o let x 0 x end":         "{m:4,n:1,o:0} {m:5,n:2,o:0}",
		"take x 1 emit form a case x none num x x b case x some 2 x x c else none num x end":    "{a:1,b:2,c:1}",
		"each x map x get l old mul x x each y keep x get l old less x 2 emit form x x y y end": "{x:1,y:1} {x:4,y:1}",
	} {
		mustDo(t, old, s, answer)
		if said := doingAsSaid(actionOf(s), treeOf(old)); said != answer {
			t.Errorf("%s: the cases themselves have %s and %s", s, said, answer)
		}
	}
}
