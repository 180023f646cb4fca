package tests

import (
	"slices"
	"strings"
	"testing"
	"unsafe"

	"loop.example/tealang/impl"
)

// appendToTree puts something behind the end of each list.
func appendToTree(x impl.Tree) {
	_ = append(x.Names, "zz")
	_ = append(x.Kids, flag(1))
	for _, kid := range x.Kids {
		appendToTree(kid)
	}
}

// spoilTree adds 1000 to the Sort of each part below this one, and changes all names.
func spoilTree(x impl.Tree) {
	for i := range x.Names {
		x.Names[i] += "!"
	}
	for i := range x.Kids {
		x.Kids[i].Sort += 1000
		spoilTree(x.Kids[i])
	}
}

// spoiltParts counts those that were changed just once, their names too.
func spoiltParts(x impl.Tree) int {
	count := 0
	for _, name := range x.Names {
		if strings.Count(name, "!") != 1 {
			count -= 1000
		}
	}
	for _, kid := range x.Kids {
		if 1000 <= kid.Sort && kid.Sort < 2000 {
			count++
		}
		count += spoiltParts(kid)
	}
	return count
}

// A value's answer is new memory: a change of it, or what is put behind the end of one of its lists, is not seen in an argument, elsewhere in it, or in a second answer.
func TestRunAnswerIsNew(t *testing.T) {
	const tree = `{a:1,b:{p:2,q:["r","s"]},c:?3}`
	vars := boundTo("x="+tree, "l=[[1,2,3],[4]]")
	vars = append(vars, impl.LiftBound{Name: "y", Tree: vars[0].Tree})
	for _, s := range append(sharing(),
		"l", "part l 0 1", "part l 0 2", "keep z l yes", "map z l z", "map z l l", "join l l", "join part l 0 1 l", "form a part l 0 1 b part l 0 1 end", "form a at l 0 b part at l 0 0 2 c part at l 0 1 3 end", "fold a z l l join a l", "let z part l 0 1 form a join z one k1 b join z one k1 c z end", "form a x b y c put a x y end", "form a cut a x b cut b x c x end",
	) {
		n := valueOf(strings.ReplaceAll(s, "k1", "empty num"))
		written := nodeWords(n)
		x, _ := impl.LiftEval(vars, n)
		other, code := impl.LiftEval(vars, n)
		before, parts := impl.TreeWrite(x), partsOf(x)
		if code != 0 {
			t.Fatalf("%s: %d", s, code)
		}
		appendToTree(x)
		if got := impl.TreeWrite(x); got != before {
			t.Errorf("%s: %s, when its lists grew %s", s, before, got)
		}
		spoilTree(x)
		if got := spoiltParts(x); got != parts-1 {
			t.Errorf("%s: %d parts of %d are changed once", s, got, parts-1)
		}
		if impl.TreeWrite(other) != before || impl.TreeWrite(vars[0].Tree) != tree || impl.TreeWrite(vars[1].Tree) != "[[1,2,3],[4]]" || nodeWords(n) != written {
			t.Errorf("%s: changed with the answer", s)
		}
	}
}

// So are the events of an upcaster, each of them, and their list.
func TestRunOutsAreNew(t *testing.T) {
	const tree = `{a:[1,2,3],b:{p:2,q:["r","s"]}}`
	old := treeOf(tree)
	for _, s := range []string{
		"both emit old emit old", "take x old both emit x emit x", "each x get a old emit old", "each x get a old emit form x get b old y old z get b old end", "both emit get b old both emit old send t 1 old", "each x one old both emit x emit put c x x", "take x put a old get b old both emit x send t 1 x",
	} {
		n := actionOf(s)
		done, other := impl.LiftRun(n, old), impl.LiftRun(n, old)
		before, parts := doneText(done), 0
		if done.Code != 0 || len(done.Outs) < 2 {
			t.Fatalf("%s: %v", s, done)
		}
		for _, out := range done.Outs {
			parts += partsOf(out.Body) - 1
			appendToTree(out.Body)
		}
		_ = append(done.Outs, impl.LiftOut{Name: "zz"})
		if got := doneText(done); got != before {
			t.Errorf("%s: %s, when its lists grew %s", s, before, got)
		}
		count := 0
		for _, out := range done.Outs {
			spoilTree(out.Body)
		}
		for _, out := range done.Outs {
			count += spoiltParts(out.Body)
		}
		if count != parts {
			t.Errorf("%s: %d parts of %d are changed once", s, count, parts)
		}
		for i := range done.Outs {
			done.Outs[i] = impl.LiftOut{}
		}
		if doneText(other) != before || impl.TreeWrite(old) != tree || nodeWords(n) != s {
			t.Errorf("%s: changed with the answer", s)
		}
	}
}

// textsOf are all names and texts of a tree.
func textsOf(x impl.Tree) []string {
	out := append(slices.Clone(x.Names), x.Text)
	for _, kid := range x.Kids {
		out = append(out, textsOf(kid)...)
	}
	return out
}

func mustNotLieIn(t *testing.T, words, given []string) {
	t.Helper()
	for _, word := range words {
		at := uintptr(unsafe.Pointer(unsafe.StringData(word)))
		for _, other := range given {
			start := uintptr(unsafe.Pointer(unsafe.StringData(other)))
			if len(word) > 0 && start <= at && at < start+uintptr(len(other)) {
				t.Errorf("%s lies in an argument", word)
			}
		}
	}
}

// No name and no text of an answer lies in an argument.
func TestRunAnswerSharesNoText(t *testing.T) {
	n := impl.LiftNode{Op: impl.LiftForm, Names: []string{strings.Clone("aa"), strings.Clone("bb"), strings.Clone("cc"), strings.Clone("dd"), strings.Clone("ee")}, Kids: []impl.LiftNode{
		nameNode("x"), textNode(strings.Clone("some text")), {Op: impl.LiftPut, Names: []string{strings.Clone("gg")}, Kids: []impl.LiftNode{nameNode("x"), numNode(1)}}, valueOf("part get ff x 2 5"), node(impl.LiftJoin, "", textNode(""), textNode(strings.Clone("whole"))),
	}}
	x := impl.Tree{Sort: impl.TreeForm, Names: []string{strings.Clone("ff")}, Kids: []impl.Tree{text(strings.Clone("a longer text"))}}
	given := slices.Concat(n.Names, []string{n.Kids[1].Text, n.Kids[2].Names[0], n.Kids[4].Kids[1].Text}, textsOf(x))
	meant, code := impl.LiftEval([]impl.LiftBound{{Name: "x", Tree: x}}, n)
	if got := impl.TreeWrite(meant); code != 0 || got != `{aa:{ff:"a longer text"},bb:"some text",cc:{ff:"a longer text",gg:1},dd:"lon",ee:"whole"}` {
		t.Fatalf("%s, %d", got, code)
	}
	mustNotLieIn(t, textsOf(meant), given)
	send := sendNode(strings.Clone("paid"), 3, n)
	given = append(given, send.Names[0])
	done := impl.LiftRun(node(impl.LiftTake, "x", nameNode("old"), send), x)
	if len(done.Outs) != 1 || done.Outs[0].Name != "paid" {
		t.Fatalf("%v", done)
	}
	mustNotLieIn(t, append(textsOf(done.Outs[0].Body), done.Outs[0].Name), given)
}

// Nothing is written into an argument, or behind its end; what lies behind the end is not read.
func TestRunArgumentsStay(t *testing.T) {
	names := []string{"b", "d", "e", "zz"}
	trees := []impl.Tree{num(1), list(num(2), num(3)), flag(1), {}}
	x := impl.Tree{Sort: impl.TreeForm, Names: names[:3], Kids: trees[:3]}
	numbers := []impl.Tree{num(1), num(2), num(3), text("behind")}
	vars := []impl.LiftBound{{Name: "x", Tree: x}, {Name: "l", Tree: list(numbers[:3]...)}, {Name: "NONE"}}
	for s, answer := range map[string]string{
		"put a x 1": "{a:1,b:1,d:[2,3],e:yes}", "put c x 1": "{b:1,c:1,d:[2,3],e:yes}", "put f x 1": "{b:1,d:[2,3],e:yes,f:1}", "put d x 1": "{b:1,d:1,e:yes}", "cut b x": "{d:[2,3],e:yes}", "cut d x": "{b:1,e:yes}", "cut e x": "{b:1,d:[2,3]}",
		"join l one 9": "[1,2,3,9]", "join part l 0 1 one 9": "[1,9]", "map y l 7": "[7,7,7]", "keep y l less y 3": "[1,2]", "part l 0 2": "[1,2]", "fold a y l l join part a 0 2 one y": "[1,2,3]",
	} {
		mustMean(t, vars[:2], s, answer)
		mustMean(t, vars[:2], "let z "+s+" form l l x x end", "{l:[1,2,3],x:{b:1,d:[2,3],e:yes}}")
	}
	for _, s := range []string{"put a old 1", "put d old 1", "cut b old", "cut d old", "cut e old", "join part get d old 0 1 one 9", "map y get d old 9"} {
		if got := doing(actionOf("take x old both take z "+s+" drop emit x"), x); got != "{b:1,d:[2,3],e:yes}" {
			t.Errorf("%s: %s", s, got)
		}
	}
	if !slices.Equal(names, []string{"b", "d", "e", "zz"}) || !slices.EqualFunc(trees, []impl.Tree{num(1), list(num(2), num(3)), flag(1), {}}, sameTree) || !slices.EqualFunc(numbers, []impl.Tree{num(1), num(2), num(3), text("behind")}, sameTree) || vars[2].Name != "NONE" {
		t.Errorf("%v %v %v", names, trees, numbers)
	}
	all := []impl.LiftNode{numNode(1), numNode(2), textNode("")}
	if got := meaning(nil, impl.LiftNode{Op: impl.LiftAdd, Kids: all[:2]}); got != "3" || !sameNode(all[2], textNode("")) {
		t.Errorf("%s, %v", got, all)
	}
}

// The same answer comes again, whatever was asked in between, a stop too.
func TestRunKeepsNothing(t *testing.T) {
	for range 3 {
		mustMean(t, boundTo("x=1"), "let y x y", "1")
		mustMean(t, nil, "x", "!6")
		mustMean(t, nil, "y", "!6")
		mustMean(t, nil, "div 1 0", "!2")
		mustDo(t, "{n:1}", "both emit old fail 3", "!5 3")
		mustDo(t, "{n:1}", "emit old", "{n:1}")
		mustDo(t, "{n:2}", "drop", "drop")
		mustMean(t, nil, "old", "!6")
		mustMean(t, nil, "1", "1")
	}
	n := actionOf("each x get l old emit form a x b get l old end")
	for range 2 {
		if got := doing(n, treeOf("{l:[1,2]}")); got != "{a:1,b:[1,2]} {a:2,b:[1,2]}" {
			t.Error(got)
		}
		if got := doing(n, treeOf("{l:[3]}")); got != "{a:3,b:[3]}" {
			t.Error(got)
		}
	}
}
