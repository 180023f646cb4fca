package tests

import (
	"strings"
	"testing"

	"loop.example/tealang/impl"
)

// someVars have a schema of each sort, and of some that are close to it.
const someVars = "n num s text f flag l [num] w [text] m ?num q ?text o {a:num,b:text} e {} d [[num]] r ?[num]"

// Each row of the table of chapter 12, its kids being what they must be.
func TestCheckKindOfEachOp(t *testing.T) {
	for s, kind := range map[string]string{
		"7": "num", `"a"`: "text", "yes": "flag", "no": "flag",
		"n": "num", "o": "{a:num,b:text}", "d": "[[num]]",
		"none num": "?num", "none ?text": "??text", "none {a:num}": "?{a:num}", "empty flag": "[flag]", "empty [num]": "[[num]]", "empty {}": "[{}]",
		"some n": "?num", "some m": "??num", "some o": "?{a:num,b:text}", "one n": "[num]", "one l": "[[num]]", "one one yes": "[[flag]]",
		"add n 1": "num", "sub 1 n": "num", "mul n n": "num", "div n 2": "num", "rem n 2": "num",
		"less n 1": "flag", `less s "a"`: "flag",
		"same n 1": "flag", "same s s": "flag", "same f no": "flag", "same l l": "flag", "same o o": "flag", "same m read s": "flag", "same e form end": "flag",
		"and f yes": "flag", "or f no": "flag", "not f": "flag",
		"if f n 1": "num", "if f o form a 1 b s end": "{a:num,b:text}", "if f m none num": "?num", "if f l empty num": "[num]",
		"let x n x": "num", "let x n s": "text", "let x o get b x": "text",
		"get a o": "num", "get b o": "text", "get c form c l end": "[num]",
		"put a o s": "{a:text,b:text}", "put c o f": "{a:num,b:text,c:flag}", "put a0 o f": "{a:num,a0:flag,b:text}", "put b o o": "{a:num,b:{a:num,b:text}}", "put a e 1": "{a:num}", "put add o 1": "{a:num,add:num,b:text}", "put end e 1": "{end:num}",
		"cut a o": "{b:text}", "cut b o": "{a:num}", "cut a cut b o": "{}", "cut end put end e 1": "{}",
		"form end": "{}", "form a n end": "{a:num}", "form a n b s c l end": "{a:num,b:text,c:[num]}", "form a form end b o end": "{a:{},b:{a:num,b:text}}",
		"at l 0": "num", "at w n": "text", "at d 1": "[num]", "at one o 0": "{a:num,b:text}",
		"size l": "num", "size s": "num", "size d": "num",
		"join l one 1": "[num]", `join s "a"`: "text", "join d empty [num]": "[[num]]",
		"part l 0 1": "[num]", "part s n n": "text", "part d n size s": "[[num]]",
		"show n": "text", "read s": "?num",
		"else m 1": "num", "else q s": "text", "else none {a:num,b:text} o": "{a:num,b:text}", "else r l": "[num]", "else some m m": "?num",
		"case x m x 1": "num", "case x q size x 0": "num", "case x m f no": "flag", "case x r at x 0 n": "num", "case x some m x m": "?num",
		"map x l x": "[num]", "map x l show x": "[text]", "map x w o": "[{a:num,b:text}]", "map x d size x": "[num]", "map x l one x": "[[num]]",
		"keep x l less x 3": "[num]", "keep x w yes": "[text]", "keep x d same x l": "[[num]]",
		"fold a x l 0 add a x": "num", "fold a x w 0 add a size x": "num", `fold a x l "" join a show x`: "text", "fold a x d l join a x": "[num]", "fold a x l m some x": "?num",
	} {
		mustAnswer(t, varsOf(someVars), s, kind)
	}
}

// Each row of the table of chapter 12, one kid of each not being what it must be: the kid's place is told.
func TestCheckWrongKids(t *testing.T) {
	for s, at := range map[string]int{
		"add s 1": 1, "add 1 s": 2, "add f f": 1, "add m 1": 1, "add 1 m": 2, "sub l 1": 1, "sub 1 l": 2, "mul o 1": 1, "mul 1 o": 2, "div yes 1": 1, "div 1 yes": 2, `rem "1" 1`: 1, `rem 1 "1"`: 2,
		"less f f": 1, "less l l": 1, "less o o": 1, "less m m": 1, "less n s": 2, "less s n": 2, "less n m": 2,
		"same n s": 2, "same m n": 2, "same n m": 2, "same l w": 2, "same l d": 2, "same o e": 2, "same e o": 2, "same o form a 1 b 2 end": 2, "same o form a 1 c s end": 2, "same none num none text": 2, "same empty num none num": 2,
		"and n f": 1, "and f n": 2, "or s f": 1, "or f s": 2, "not n": 1, "not some yes": 1,
		"if n 1 2": 1, "if f 1 s": 3, "if f s 1": 3, "if f n m": 3, "if f m n": 3, "if f l w": 3, "if some f 1 2": 1,
		"get a n": 1, "get a l": 1, "get a some o": 1, "get a one o": 1, "get a s": 1,
		"cut a n": 1, "cut a l": 1, "cut a some o": 1, "cut a one o": 1,
		"put a n 1": 1, "put a l 1": 1, "put a some o 1": 1, "put a one o 1": 1,
		"at s 0": 1, "at n 0": 1, "at m 0": 1, "at o 0": 1, "at l s": 2, "at l m": 2, "at l l": 2,
		"size n": 1, "size f": 1, "size o": 1, "size m": 1, "size q": 1, "size r": 1,
		"join n n": 1, "join f f": 1, "join o o": 1, "join m m": 1, "join l s": 2, "join s l": 2, "join l w": 2, "join l d": 2, "join l 1": 2,
		"part n 0 1": 1, "part f 0 1": 1, "part o 0 1": 1, "part m 0 1": 1, "part l s 1": 2, "part l 0 s": 3, "part s s 1": 2, "part s 0 m": 3,
		"show s": 1, "show f": 1, "show m": 1, "read n": 1, "read q": 1, "read w": 1,
		"else n n": 1, "else l n": 1, "else o o": 1, "else m s": 2, "else m m": 2, "else q n": 2, "else r n": 2, "else some m n": 3,
		"case x n 1 2": 1, "case x l x 1": 1, "case x o 1 2": 1, "case x m x s": 3, "case x m x m": 3, "case x q x 1": 3,
		"map x n x": 1, "map x s x": 1, "map x m x": 1, "map x o x": 1,
		"keep x n yes": 1, "keep x s yes": 1, "keep x m yes": 1, "keep x o yes": 1, "keep x l x": 2, "keep x l s": 2, "keep x l some f": 2,
		"fold a x n 0 a": 1, "fold a x s 0 a": 1, "fold a x m 0 a": 1, "fold a x o 0 a": 1, "fold a x l 0 show a": 3, "fold a x w 0 x": 3, "fold a x l s x": 3, "fold a x l m x": 3,
	} {
		mustAnswer(t, varsOf(someVars), s, told(impl.LiftFault{Code: impl.LiftWrong, At: at}))
	}
}

// The place of a node counts all nodes ahead of it, those below the kids ahead of it too.
func TestCheckPlaces(t *testing.T) {
	for s, answer := range map[string]string{
		"add add 1 2 s": "6@4", "add add 1 s 2": "6@3", "add add add 1 2 3 add s 1": "6@7", "not not not not n": "6@4",
		"if less 1 add 2 3 one 1 l": "[num]", "if less 1 add 2 3 one 1 w": "6@8",
		"form a add 1 2 b size form end end": "6@5", "form a form a form a 1 b s end end b not n end": "6@6",
		"let x add 1 2 add x let y s y": "6@6", "case x some add 1 2 add x 1 show 1": "6@8",
		"fold a x map y l add y 1 0 add a show x": "6@9", "keep x map y l show y join x x": "6@5",
		"part join l one 1 add 1 2 not f": "6@8", "put a o add s 1": "6@3", "cut a get a o": "6@1",
	} {
		mustAnswer(t, varsOf(someVars), s, answer)
	}
}

// All ops with all kids of some sorts, held against the document's table.
func TestCheckAllKids(t *testing.T) {
	vars := varsOf(someVars)
	right, wrong := 0, 0
	for i, line := range opTable() {
		op := 5 + i
		if op < impl.LiftSome || op > impl.LiftFold {
			continue
		}
		for _, kids := range rowsOfVars(vars, strings.Count(line, "V")) {
			n := node(op, "", kids...)
			switch {
			case strings.Contains(line, "X Y"):
				n.Names = []string{"u", "v"}
			case strings.Contains(line, "X"):
				n.Names = []string{"u"}
			case strings.Contains(line, "N"):
				n.Names = []string{"a"}
			}
			kind, fault := kindAsSaid(vars, n)
			got, gotFault := impl.LiftKind(vars, n)
			if gotFault != fault || impl.KindWrite(got) != kind {
				t.Errorf("%s: %s, %v, not %s, %v", nodeWords(n), impl.KindWrite(got), gotFault, kind, fault)
			}
			if fault.Code == 0 {
				right++
			} else {
				wrong++
			}
		}
	}
	if right < 300 || wrong < 5000 {
		t.Errorf("too few: %d right, %d wrong", right, wrong)
	}
}

// rowsOfVars are all rows of so many names of vars.
func rowsOfVars(vars []impl.LiftVar, size int) [][]impl.LiftNode {
	if size == 0 {
		return [][]impl.LiftNode{nil}
	}
	var out [][]impl.LiftNode
	for _, row := range rowsOfVars(vars, size-1) {
		for _, v := range vars {
			out = append(out, append(row[:len(row):len(row)], nameNode(v.Name)))
		}
	}
	return out
}

// `get` and `cut` of a name that the form has not.
func TestCheckNoField(t *testing.T) {
	for s, answer := range map[string]string{
		"get z o": "8@0", "get c o": "8@0", "get a0 o": "8@0", "get a e": "8@0", "get add o": "8@0", "get end o": "8@0",
		"cut z o": "8@0", "cut a e": "8@0", "cut a cut a o": "8@0", "get a cut a o": "8@0", "get b cut a o": "text",
		"add 1 get z o": "8@2", "get a get z o": "8@1", "get z get a form a o end": "8@0", "size cut z form a 1 end": "8@1",
		"form a get z o b 1 end": "8@1", "let x o get a cut a x": "8@2", "put z cut z o 1": "8@1",
	} {
		mustAnswer(t, varsOf(someVars), s, answer)
	}
}

// Which fault is told where several are there: the first as one looks, kid by kid, what each must be right behind it, and the node's own last.
func TestCheckFirstFault(t *testing.T) {
	for s, answer := range map[string]string{
		"add x s": "5@1", "add s x": "6@1", "add n x": "5@2",
		"if x s x": "5@1", "if n x x": "6@1", "if f x s": "5@2", "if f s x": "5@3",
		"less f x": "6@1", "less x f": "5@1", "same x y": "5@1", "at n x": "6@1",
		"get z n": "6@1", "get z x": "5@1", "cut z n": "6@1", "cut z x": "5@1", "get z some o": "6@1", "cut z one o": "6@1",
		"put z n x": "6@1", "put z o x": "5@2", "get z put a x 1": "5@2", "get z get y o": "8@1",
		"form a n b x c add s s end": "5@2", "form a n b add s x c x end": "6@3", "form a get z o b x end": "8@1", "form a x b get z o end": "5@1",
		"add get z o x": "8@1", "not add x s": "5@2", "not add n n": "6@1", "not add n s": "6@3",
		"keep x n y": "6@1", "keep x y n": "5@1", "map x n y": "6@1", "else n x": "6@1", "else m x": "5@2",
		"case x n y z": "6@1", "case x m y z": "5@2", "case x m s x": "5@3",
		"fold a x n y z": "6@1", "fold a x l y z": "5@2", "fold a x l 0 z": "5@3",
		"part l x s": "5@2", "part l s x": "6@2", "let x y z": "5@1", "let x get z o y": "8@1",
		"some some some some some some x": "5@6", "some some some some some some n": "7@0",
		"same some some some some some m x": "7@1", "add some some some some some m x": "7@1", "add x some some some some some m": "5@1",
		"add n some some some some some m": "7@2", "add s some some some some some m": "6@1",
		"size one one one one one l": "7@1", "get z one one one one one l": "7@1", "get z one one one one l": "6@1",
		"form a some some some some r b x end": "7@1", "form a some some some r b x end": "5@5", "form a some some some r b s end": "7@0",
	} {
		mustAnswer(t, varsOf(someVars), s, answer)
	}
}

// The name that is not bound is told at its place.
func TestCheckUnknown(t *testing.T) {
	for s, at := range map[string]int{
		"x": 0, "some x": 1, "one x": 1, "add 1 x": 2, "form a 1 b x end": 2, "size join l x": 3, "let y 1 x": 2, "old": 0, "num": 0,
	} {
		mustAnswer(t, varsOf(someVars), s, told(impl.LiftFault{Code: impl.LiftUnknown, At: at}))
		mustAnswer(t, nil, "let l empty num "+s, told(impl.LiftFault{Code: impl.LiftUnknown, At: at + 2}))
	}
}
