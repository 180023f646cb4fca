package tests

import (
	"testing"

	"loop.example/tealang/impl"
)

// Names that are bound several times, in vars and by nodes within each other: the last one that was bound counts.
func TestCheckNamesBoundAgain(t *testing.T) {
	vars := varsOf("x num x text l [num] m ?num y flag y num")
	for s, answer := range map[string]string{
		"x": "text", "y": "num", "size x": "num", "add x 1": "6@1", "add y 1": "num",
		"let x 1 x": "num", "let x 1 let x yes x": "flag", "let x 1 let x x x": "num", "let x x x": "text", "let x one x at x 0": "text",
		"let x 1 let y x let x no y": "num", "let x 1 add x let x x x": "num", "let l 1 add l l": "num", "let l l let l at l 0 l": "num",
		"map x l x": "[num]", "map l l l": "[num]", "map x l let x yes x": "[flag]", "let x yes map x l x": "[num]", "map x l map x one yes x": "[[flag]]",
		"keep x l less x 1": "[num]", "keep l l less l 1": "[num]", "keep x l size x": "6@3", "keep x l add x 1": "6@2", `keep x l less x "a"`: "6@4",
		"case x m x 1": "num", "case m m m 1": "num", "case x m x x": "6@3", `case y some "a" size y y`: "num", "case x some m case x x x 1 1": "num",
		"fold x y l 0 add x y": "num", "fold y x l 0 add x y": "num", `fold x y l "" join x show y`: "text", "fold y x l yes less x 1": "flag", "fold l m l m some m": "?num", "fold m l l 0 add m l": "num",
		"fold x y l x x": "text", "fold x y one x y add y size x": "6@5", "fold x y one x y add x size y": "num", "let x 1 fold y x one no x y": "num", "fold x y l 0 fold x z one yes x x": "num", "fold x y l 0 fold y z one yes x y": "num",
	} {
		mustAnswer(t, vars, s, answer)
	}
}

// Names that are bound beside and not around a node, or for another kid of the node that binds them.
func TestCheckNamesBoundBeside(t *testing.T) {
	vars := varsOf("l [num] m ?num")
	for s, answer := range map[string]string{
		"add let x 1 x x": "5@4", "add x let x 1 x": "5@1", "let x x 1": "5@1", "let x let y 1 y y": "5@4", "let x let y 1 y x": "num",
		"form a let x 1 x b x end": "5@4", "form a map x l x b let y 1 y c y end": "5@7",
		"map x x x": "5@1", "map x one x 1": "5@2", "join map x l x one x": "5@5", "map x l let y 1 x": "[num]", "map x map y l y y": "5@4",
		"keep x x yes": "5@1", "keep x keep y l less y 1 less y 1": "5@7",
		"case x x 1 1": "5@1", "case x m 1 x": "5@3", "case x m x x": "5@3", "case x case y m some y m y x": "5@6",
		"fold a x a 0 0": "5@1", "fold a x x 0 0": "5@1", "fold a x l a a": "5@2", "fold a x l x 0": "5@2", "add fold a x l 0 a a": "5@5", "add fold a x l 0 a x": "5@5",
		"if let f yes f 1 f": "5@5", "same let x 1 x let y 1 x": "5@6",
	} {
		mustAnswer(t, vars, s, answer)
	}
}

// Vars may have any names, those of ops too; no value can have such a name.
func TestCheckVarsOfWords(t *testing.T) {
	for _, word := range append(opWords(), "yes", "no", "end", "num", "old", "abcdefg9") {
		mustAnswer(t, []impl.LiftVar{{Name: word, Kind: numKind()}}, "form a 1 end", "{a:num}")
	}
	mustAnswer(t, varsOf("num text abcdefg9 flag old num"), "form a num b abcdefg9 c old end", "{a:text,b:flag,c:num}")
	mustAnswer(t, nil, "form end", "{}")
	mustAnswer(t, []impl.LiftVar{}, "form end", "{}")
	mustAnswer(t, nil, "old", "5@0")
}

// Names in upcasters: `old` is bound to from, and may be bound again.
func TestCheckNamesInActions(t *testing.T) {
	const from = "{l:[num],m:?num,n:num,w:[{n:num}]}"
	sinks := sinksOf("{n:num}", "t 1 {s:text}")
	for s, answer := range map[string]string{
		"emit form n get n old end": "0@0", "emit form n old end": "6@1", "emit old": "6@1", "emit x": "5@1", "take x old emit form n get n x end": "0@0",
		"take old 1 emit form n old end": "0@0", "take old 1 emit form n get n old end": "6@5", "take old get n old emit form n old end": "0@0", "take old old emit form n get n old end": "0@0",
		"each old get l old emit form n old end": "0@0", "each old get w old emit old": "0@0", "each x get w old emit x": "0@0", "each x get w old emit old": "6@4", "each x get l old emit x": "6@4",
		`take x 1 take x "a" send t 1 form s x end`: "0@0", `take x 1 take x "a" emit form n x end`: "6@5", "take x 1 each x get w old emit x": "0@0", "each x get w old take x 1 emit form n x end": "0@0",
		"both take x 1 drop emit form n x end": "5@6", "both emit form n x end take x 1 drop": "5@3", "both each x get w old emit x emit x": "5@7",
		"take x x drop": "5@1", "each x x drop": "5@1", "choose yes take x 1 drop emit form n x end": "5@7", "choose let x yes x drop emit form n x end": "5@7",
		"take x 1 choose same x 2 emit form n x end take x yes choose x drop emit form n x end": "6@15",
		"take x 1 both take x yes choose x drop drop emit form n x end":                         "0@0",
	} {
		mustCheck(t, from, sinks, s, answer)
	}
}
