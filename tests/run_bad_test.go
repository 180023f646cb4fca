package tests

import (
	"slices"
	"strings"
	"testing"

	"loop.example/tealang/impl"
)

func mustBeBroken(t *testing.T, what string, vars []impl.LiftBound, n impl.LiftNode) {
	t.Helper()
	if got := meaning(vars, n); got != "!6" {
		t.Errorf("%s: %s", what, got)
	}
}

func mustNotRun(t *testing.T, what string, n impl.LiftNode, old impl.Tree) {
	t.Helper()
	if done := impl.LiftRun(n, old); done.Code != impl.StopBroken || done.Why != 0 || len(done.Outs) != 0 {
		t.Errorf("%s: %v", what, done)
	}
}

// What is no value that is ok.
func TestRunNoValue(t *testing.T) {
	bad := []impl.LiftBound{{Name: "A", Tree: num(1)}}
	look := func(what string, n impl.LiftNode) {
		t.Helper()
		mustBeBroken(t, what, nil, n)
		mustBeBroken(t, what, boundTo("old={}", "x=1", "l=[1]"), n)
		mustBeBroken(t, what+", and vars that are wrong", bad, n)
	}
	look("nothing", impl.LiftNode{})
	for _, c := range ordinaryNodes() {
		look(c.what, c.node)
		look(c.what+" in a value", node(impl.LiftSome, "", c.node))
	}
	for what, n := range wrongValues() {
		look(what, n)
		// Ahead of all, even of what stops ahead of it, and where it would not be done.
		look(what+", behind a stop", node(impl.LiftForm, "a b", valueOf("div 1 0"), n))
		look(what+", not meant", node(impl.LiftIf, "", flagNode(1), numNode(1), n))
	}
	for what, n := range endless() {
		look(what, n)
	}
	for _, op := range []int{-1, 0, 36, 43, 44, 300, 1 << 30} {
		look("no op", impl.LiftNode{Op: op})
	}
	look("201 nodes", formNode(200, numNode(1)))
	look("25 levels", notNode(25))
	long := longNode(3001).Kids[0]
	long.Kids[len(long.Kids)-1].Text += "fives"
	look("3001 bytes", long)
	long.Kids[len(long.Kids)-1].Text = strings.TrimSuffix(long.Kids[len(long.Kids)-1].Text, "s")
	if got, said := meaning(nil, long), meaningAsSaid(nil, long); len(nodeWords(long)) != 3000 || got != said || got == "!6" {
		t.Errorf("%d bytes: %s, not %s", len(nodeWords(long)), got, said)
	}
	if got := meaning(nil, formNode(199, numNode(1))); got != "!4" {
		t.Errorf("200 nodes: %s", got)
	}
	if got := meaning(nil, notNode(24)); got != "no" {
		t.Errorf("24 levels: %s", got)
	}
}

// Vars without a name, or with a Tree that is not ok, wherever they stand, and whether they are used or not.
func TestRunWrongVars(t *testing.T) {
	good := boundTo("a=1", `b="x"`, "x=[1]")
	look := func(what string, bad impl.LiftBound) {
		t.Helper()
		for place := range len(good) + 1 {
			for _, s := range []string{"1", "a", "add a 1", "zzz", "div 1 0", "add 999999999 1", "if yes 1 zzz"} {
				mustBeBroken(t, what, slices.Insert(slices.Clone(good), place, bad), valueOf(s))
			}
		}
		mustBeBroken(t, what, []impl.LiftBound{bad}, numNode(1))
		mustBeBroken(t, what, []impl.LiftBound{bad, {Name: "a", Tree: num(1)}}, nameNode("a"))
	}
	for _, name := range notNames() {
		look("the name "+name[:min(len(name), 9)], impl.LiftBound{Name: name, Tree: num(1)})
	}
	for what, x := range wrongTrees() {
		look(what, impl.LiftBound{Name: "a", Tree: x})
		look(what+", within", impl.LiftBound{Name: "a", Tree: list(num(1), x)})
		look(what+", and no name", impl.LiftBound{Tree: x})
	}
	self := list(num(1))
	self.Kids[0] = self
	look("a tree within itself", impl.LiftBound{Name: "a", Tree: self})
	look("nothing", impl.LiftBound{})
	for _, c := range append(ordinaryTrees(), edgeTrees()...) {
		if got := meaning([]impl.LiftBound{{Name: "a", Tree: c.tree}}, nameNode("a")); got != c.text {
			t.Errorf("%s: %s", c.what, got)
		}
	}
}

// What is no action that is ok.
func TestRunNoAction(t *testing.T) {
	look := func(what string, n impl.LiftNode) {
		t.Helper()
		mustNotRun(t, what, n, treeOf("{l:[1]}"))
		mustNotRun(t, what, n, form(""))
		mustNotRun(t, what+", and no form", n, num(1))
		mustNotRun(t, what+", and nothing", n, impl.Tree{})
	}
	look("nothing", impl.LiftNode{})
	for _, c := range ordinaryNodes() {
		if c.node.Op == impl.LiftEmit {
			look(c.what, c.node.Kids[0])
		}
		look(c.what+" as a value", emitNode(c.node))
	}
	for what, n := range wrongValues() {
		look(what, n)
		look(what+", in an action", emitNode(n))
		look(what+", behind a stop", node(impl.LiftBoth, "", failNode(7), emitNode(n)))
		look(what+", not meant", node(impl.LiftChoose, "", flagNode(1), dropNode(), emitNode(n)))
	}
	for what, n := range endless() {
		look(what, n)
	}
	look("201 nodes", emitNode(formNode(199, numNode(1))))
	look("25 levels", bothNode(25))
	look("3001 bytes", longNode(3001))
	look("fail 100", failNode(100))
	look("fail -1", failNode(-1))
	look("send of version 0", sendNode("t", 0, node(impl.LiftForm, "")))
	look("send of version 13", sendNode("t", 13, node(impl.LiftForm, "")))
	look("send without a name", sendNode("", 1, node(impl.LiftForm, "")))
	if got := doing(emitNode(formNode(119, numNode(1))), form("")); got != impl.TreeWrite(impl.Tree{Sort: impl.TreeForm, Names: fieldNames(119), Kids: times(119, num(1))}) {
		t.Errorf("119 fields: %s", got)
	}
}

// An old that is no form, or is not ok: nothing is done, not even `fail` or `drop`.
func TestRunWrongOld(t *testing.T) {
	look := func(what string, old impl.Tree) {
		t.Helper()
		for _, s := range []string{"drop", "fail 1", "emit form end", "emit old", "take old 1 drop", "emit zzz", "take x div 1 0 drop"} {
			mustNotRun(t, what+", "+s, actionOf(s), old)
		}
	}
	for what, x := range wrongTrees() {
		look(what, x)
		look(what+", in a form", form("a", x))
		look(what+", in a list in a form", form("a b", num(1), list(x)))
	}
	for _, c := range append(ordinaryTrees(), edgeTrees()...) {
		if c.tree.Sort != impl.TreeForm {
			look(c.what, c.tree)
		} else if got := doing(actionOf("emit old"), c.tree); got != c.text {
			t.Errorf("%s: %s", c.what, got)
		}
	}
	look("nothing", impl.Tree{})
	self := form("a", num(1))
	self.Kids[0] = self
	look("a form within itself", self)
	huge := form("")
	for range 40 {
		huge = form("a b", huge, huge)
	}
	look("a form of many levels", huge)
}

// A body that is no form, of `emit` and of `send`, wherever it comes from.
func TestRunBodyThatIsNoForm(t *testing.T) {
	for _, body := range []string{"1", `"a"`, "yes", "get l old", "some old", "get n old", "none {}", "empty {}", "one old", "some form end", "if yes 1 old", "let x 1 x", "else none num 1", "get m old", "map x one old x", "fold a x one 1 old 1"} {
		for _, head := range []string{"emit ", "send t 1 ", "both emit old emit ", "both drop send t 12 ", "each x one 1 emit "} {
			mustDo(t, "{l:[{}],m:?{},n:7}", head+body, "!6")
		}
	}
	for _, body := range []string{"old", "form end", "at get l old 0", "else get m old old", "if yes old 1", "case x get m old x 1", "fold a x one 1 1 old"} {
		for _, head := range []string{"emit ", "send t 1 ", "both drop emit "} {
			if got := doing(actionOf(head+body), treeOf("{l:[{}],m:?{},n:7}")); got[0] == '!' {
				t.Errorf("%s%s: %s", head, body, got)
			}
		}
	}
}
