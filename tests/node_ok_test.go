package tests

import (
	"strings"
	"testing"

	"loop.example/tealang/impl"
)

// inEmit is an action with this value alone.
func inEmit(what string, value impl.LiftNode, text string) nodeCase {
	return nodeCase{what, emitNode(value), "emit " + text}
}

// ordinaryNodes have each op of the table within them.
func ordinaryNodes() []nodeCase {
	old, x, one, two, three, yes, no := nameNode("old"), nameNode("x"), numNode(1), numNode(2), numNode(3), flagNode(1), flagNode(0)
	drop := dropNode()
	return []nodeCase{
		inEmit("a number", numNode(17), "17"),
		inEmit("a number below 0", numNode(-5), "-5"),
		inEmit("a text", textNode("a b"), `"a b"`),
		inEmit("a text that is a word", textNode("drop"), `"drop"`),
		inEmit("yes", yes, "yes"),
		inEmit("no", no, "no"),
		inEmit("a name", old, "old"),
		inEmit("none", kindNode(impl.LiftNone, "{a:num,b:?[text]}"), "none {a:num,b:?[text]}"),
		inEmit("empty", kindNode(impl.LiftEmpty, "[flag]"), "empty [flag]"),
		inEmit("some", node(impl.LiftSome, "", one), "some 1"),
		inEmit("one", node(impl.LiftOne, "", old), "one old"),
		inEmit("add", node(impl.LiftAdd, "", one, two), "add 1 2"),
		inEmit("sub", node(impl.LiftSub, "", one, two), "sub 1 2"),
		inEmit("mul", node(impl.LiftMul, "", one, two), "mul 1 2"),
		inEmit("div", node(impl.LiftDiv, "", one, two), "div 1 2"),
		inEmit("rem", node(impl.LiftRem, "", one, two), "rem 1 2"),
		inEmit("less", node(impl.LiftLess, "", one, two), "less 1 2"),
		inEmit("same", node(impl.LiftSame, "", one, two), "same 1 2"),
		inEmit("and", node(impl.LiftAnd, "", yes, no), "and yes no"),
		inEmit("or", node(impl.LiftOr, "", yes, no), "or yes no"),
		inEmit("not", node(impl.LiftNot, "", yes), "not yes"),
		inEmit("if", node(impl.LiftIf, "", yes, one, two), "if yes 1 2"),
		inEmit("let", node(impl.LiftLet, "x", one, x), "let x 1 x"),
		inEmit("get", node(impl.LiftGet, "n", old), "get n old"),
		inEmit("put", node(impl.LiftPut, "n", old, one), "put n old 1"),
		inEmit("cut", node(impl.LiftCut, "n", old), "cut n old"),
		inEmit("form", node(impl.LiftForm, "a b b2", one, two, three), "form a 1 b 2 b2 3 end"),
		inEmit("at", node(impl.LiftAt, "", old, one), "at old 1"),
		inEmit("size", node(impl.LiftSize, "", old), "size old"),
		inEmit("join", node(impl.LiftJoin, "", textNode("a"), textNode("b")), `join "a" "b"`),
		inEmit("part", node(impl.LiftPart, "", old, one, two), "part old 1 2"),
		inEmit("show", node(impl.LiftShow, "", one), "show 1"),
		inEmit("read", node(impl.LiftRead, "", textNode("1")), `read "1"`),
		inEmit("else", node(impl.LiftElse, "", old, one), "else old 1"),
		inEmit("case", node(impl.LiftCase, "x", old, x, one), "case x old x 1"),
		inEmit("map", node(impl.LiftMap, "x", old, x), "map x old x"),
		inEmit("keep", node(impl.LiftKeep, "x", old, yes), "keep x old yes"),
		inEmit("fold", node(impl.LiftFold, "a x", old, one, x), "fold a x old 1 x"),
		{"drop", drop, "drop"},
		{"fail", failNode(7), "fail 7"},
		{"emit", emitNode(old), "emit old"},
		{"send", sendNode("paid", 2, old), "send paid 2 old"},
		{"both", node(impl.LiftBoth, "", drop, failNode(1)), "both drop fail 1"},
		{"choose", node(impl.LiftChoose, "", yes, drop, failNode(1)), "choose yes drop fail 1"},
		{"take", node(impl.LiftTake, "x", one, emitNode(x)), "take x 1 emit x"},
		{"each", node(impl.LiftEach, "x", old, emitNode(x)), "each x old emit x"},
		{"the document's", node(impl.LiftChoose, "", node(impl.LiftLess, "", node(impl.LiftGet, "n", old), numNode(0)), failNode(7),
			node(impl.LiftEach, "x", node(impl.LiftGet, "items", old), emitNode(node(impl.LiftForm, "cost id tag",
				node(impl.LiftDiv, "", node(impl.LiftGet, "n", old), node(impl.LiftSize, "", node(impl.LiftGet, "items", old))), x, kindNode(impl.LiftNone, "text"))))),
			"choose less get n old 0 fail 7 each x get items old emit form cost div get n old size get items old id x tag none text end"},
		inEmit("forms within forms", node(impl.LiftForm, "a b", node(impl.LiftForm, "c", node(impl.LiftForm, "")), node(impl.LiftForm, "")), "form a form c form end end b form end end"),
	}
}

// edgeNodes are just at the bounds that the document names, and beside its words.
func edgeNodes() []nodeCase {
	old, x60 := nameNode("old"), strings.Repeat("x", 60)
	wideForm, deepKind := impl.KindWrite(wideKind(39, textKind())), "?[{a:?[num]}]"
	return []nodeCase{
		{"the least number of fail", failNode(0), "fail 0"},
		{"the greatest number of fail", failNode(99), "fail 99"},
		{"the least version of send", sendNode("a", 1, old), "send a 1 old"},
		{"the greatest version of send", sendNode("a", 12, old), "send a 12 old"},
		inEmit("form end", node(impl.LiftForm, ""), "form end"),
		inEmit("nought", numNode(0), "0"),
		inEmit("the greatest number", numNode(999999999), "999999999"),
		inEmit("the least number", numNode(-999999999), "-999999999"),
		inEmit("the empty text", textNode(""), `""`),
		inEmit("a text of spaces", textNode("   "), `"   "`),
		inEmit("the longest text", textNode(x60), `"`+x60+`"`),
		inEmit("the least and the greatest byte", textNode(" !#~"), `" !#~"`),
		inEmit("a name of a letter", nameNode("z"), "z"),
		inEmit("the longest name", nameNode("abcdefg9"), "abcdefg9"),
		inEmit("names close to words", node(impl.LiftFold, "adds end1", nameNode("ad"), nameNode("yess"), nameNode("non")), "fold adds end1 ad yess non"),
		inEmit("schemas as names", node(impl.LiftLet, "num", nameNode("text"), nameNode("flag")), "let num text flag"),
		inEmit("words as names of a form", node(impl.LiftForm, "add drop en end0 form no none yes", numNode(1), numNode(2), numNode(3), numNode(4), numNode(5), numNode(6), numNode(7), numNode(8)), "form add 1 drop 2 en 3 end0 4 form 5 no 6 none 7 yes 8 end"),
		inEmit("the schema with most levels", kindNode(impl.LiftNone, deepKind), "none "+deepKind),
		inEmit("the schema with most levels, empty", kindNode(impl.LiftEmpty, deepKind), "empty "+deepKind),
		inEmit("the schema with most parts", kindNode(impl.LiftNone, wideForm), "none "+wideForm),
		inEmit("the shortest schema of a form", kindNode(impl.LiftEmpty, "{}"), "empty {}"),
		{"the most nodes", emitNode(formNode(198, numNode(1))), "emit " + formWords(198, "1") + " end"},
		{"the most levels of values", emitNode(notNode(23)), "emit" + strings.Repeat(" not", 22) + " yes"},
		{"the most levels of actions", bothNode(24), strings.Repeat("both ", 23) + "drop" + strings.Repeat(" drop", 23)},
		{"the most nodes and levels", emitNode(deepAndMany(176, 22)), "emit " + formWords(176, "1") + " z" + strings.Repeat(" not", 21) + " yes end"},
		{"the longest text of words", longNode(3000), longText(3000)},
	}
}

// bothNode has so many levels, the first kids one below the other.
func bothNode(levels int) impl.LiftNode {
	n := dropNode()
	for range levels - 1 {
		n = node(impl.LiftBoth, "", n, dropNode())
	}
	return n
}

// deepAndMany is a form of so many numbers, and a last kid of so many levels.
func deepAndMany(numbers, levels int) impl.LiftNode {
	n := formNode(numbers, numNode(1))
	n.Names, n.Kids = append(n.Names, "z"), append(n.Kids, notNode(levels))
	return n
}

// longNode is a form of pairs of texts whose words have just so many bytes, with one space between: from 2985 on to 3045.
func longNode(size int) impl.LiftNode {
	const pairs = 23
	pair := node(impl.LiftSame, "", textNode(strings.Repeat("p", 56)), textNode(strings.Repeat("q", 56)))
	n := formNode(pairs, pair)
	short := size - len("emit "+formWords(pairs, nodeWords(pair))+` z "" end`)
	n.Names = append(n.Names, "z")
	n.Kids = append(n.Kids, textNode(strings.Repeat("r", short)))
	return emitNode(n)
}

func longText(size int) string {
	return nodeWords(longNode(size))
}

func allNodes() []nodeCase {
	return append(ordinaryNodes(), edgeNodes()...)
}

// Promise 12, of ordinary actions with each op within them and of those at the edges; promise 13 of their texts.
func TestNodeThereAndBack(t *testing.T) {
	for _, c := range allNodes() {
		if !impl.LiftOk(c.node) {
			t.Errorf("%s: not ok", c.what)
		}
		if got := impl.LiftWrite(c.node); got != c.text || len(got) > impl.LiftMaxText {
			t.Errorf("%s: written as %s, not %s", c.what, got, c.text)
		}
		if got, fault := impl.LiftParse(c.text); fault != (impl.LiftFault{}) || !sameNode(got, c.node) {
			t.Errorf("%s: %s is read as %v, %v", c.what, c.text, got, fault)
		}
	}
}

// The cases are what they are called, and all ops are among them.
func TestNodeCases(t *testing.T) {
	ops := map[int]bool{}
	var count func(n impl.LiftNode)
	count = func(n impl.LiftNode) {
		ops[n.Op] = true
		for _, kid := range n.Kids {
			count(kid)
		}
	}
	most := map[string]int{}
	for _, c := range allNodes() {
		count(c.node)
		most["nodes"] = max(most["nodes"], nodesOf(c.node))
		most["levels"] = max(most["levels"], nodeLevels(c.node))
		most["bytes"] = max(most["bytes"], len(c.text))
		if !isGoodNode(c.node) || nodeWords(c.node) != c.text {
			t.Errorf("%s: %s", c.what, c.text)
		}
	}
	if len(ops) != 43 || most["nodes"] != 200 || most["levels"] != 24 || most["bytes"] != 3000 {
		t.Errorf("%d ops, %v", len(ops), most)
	}
}

// Promise 12, of each value within each op, wherever it may stand.
func TestNodeOfEachOp(t *testing.T) {
	for _, c := range ordinaryNodes() {
		for _, inner := range ordinaryNodes() {
			for i, kid := range c.node.Kids {
				n := c.node
				n.Kids = append([]impl.LiftNode{}, c.node.Kids...)
				n.Kids[i] = inner.node
				if kid.Op < impl.LiftDrop {
					if inner.node.Op != impl.LiftEmit {
						continue
					}
					n.Kids[i] = inner.node.Kids[0]
				}
				mustComeBackNode(t, n)
			}
		}
	}
}

// mustComeBackNode is promise 12 of one action that is ok.
func mustComeBackNode(t *testing.T, n impl.LiftNode) {
	t.Helper()
	s := impl.LiftWrite(n)
	if !impl.LiftOk(n) || s != nodeWords(n) || len(s) > impl.LiftMaxText {
		t.Errorf("ok %v, written as %q, not as %q", impl.LiftOk(n), s, nodeWords(n))
	}
	if got, fault := impl.LiftParse(s); fault != (impl.LiftFault{}) || !sameNode(got, n) {
		t.Errorf("%q is read as %v, %v", s, got, fault)
	}
}

// Promise 12, of each number of fail and of send that is in its bounds; those beyond have no text.
func TestNodeNumbers(t *testing.T) {
	for number := -300; number <= 300; number++ {
		for _, c := range []struct {
			node impl.LiftNode
			ok   bool
		}{{failNode(number), 0 <= number && number <= 99}, {sendNode("a", number, numNode(1)), 1 <= number && number <= 12}} {
			if c.ok {
				mustComeBackNode(t, c.node)
			} else {
				mustBeNoAction(t, "a number", c.node)
				mustBeFault(t, nodeWords(c.node), impl.LiftBadWord, len(strings.Fields(nodeWords(c.node)))-len(c.node.Kids)-1)
			}
		}
	}
}

// Promise 12, of names: as N those of ops, `yes`, `no` and `end` may stand, as X they may not.
func TestNodeNamesThatAreWords(t *testing.T) {
	one := numNode(1)
	for _, word := range append(opWords(), "yes", "no", "end") {
		for _, n := range []impl.LiftNode{node(impl.LiftGet, word, one), node(impl.LiftCut, word, one), node(impl.LiftPut, word, one, one)} {
			mustComeBackNode(t, emitNode(n))
		}
		mustComeBackNode(t, sendNode(word, 1, one))
		if word != "end" {
			mustComeBackNode(t, emitNode(node(impl.LiftForm, word, one)))
		}
		for _, n := range []impl.LiftNode{
			node(impl.LiftLet, word, one, one), node(impl.LiftCase, word, one, one, one), node(impl.LiftMap, word, one, one), node(impl.LiftKeep, word, one, one),
			node(impl.LiftFold, word+" x", one, one, one), node(impl.LiftFold, "x "+word, one, one, one), nameNode(word),
		} {
			mustBeNoAction(t, "the name "+word, emitNode(n))
		}
		mustBeNoAction(t, "the name "+word, node(impl.LiftTake, word, one, dropNode()))
		mustBeNoAction(t, "the name "+word, node(impl.LiftEach, word, one, dropNode()))
		for _, op := range []string{"let", "case", "map", "keep", "fold"} {
			mustBeFault(t, "emit "+op+" "+word+" 1 1 1 1", impl.LiftBadWord, 2)
		}
		mustBeFault(t, "emit fold x "+word+" 1 1 1", impl.LiftBadWord, 3)
		mustBeFault(t, "take "+word+" 1 drop", impl.LiftBadWord, 1)
		mustBeFault(t, "each "+word+" 1 drop", impl.LiftBadWord, 1)
	}
}

// The empty list and the nil list are the same value.
func TestNodeEmptyLists(t *testing.T) {
	bare := impl.LiftNode{Op: impl.LiftDrop}
	full := impl.LiftNode{Op: impl.LiftDrop, Names: []string{}, Kids: []impl.LiftNode{}}
	mustComeBackNode(t, bare)
	mustComeBackNode(t, full)
	mustComeBackNode(t, emitNode(impl.LiftNode{Op: impl.LiftForm}))
	mustComeBackNode(t, emitNode(impl.LiftNode{Op: impl.LiftForm, Names: []string{}, Kids: []impl.LiftNode{}}))
}

func TestNodeLimits(t *testing.T) {
	if impl.LiftMaxText != 3000 || impl.LiftMaxNodes != 200 || impl.LiftMaxDeep != 24 || impl.LiftMaxWhy != 99 {
		t.Errorf("%d, %d, %d, %d", impl.LiftMaxText, impl.LiftMaxNodes, impl.LiftMaxDeep, impl.LiftMaxWhy)
	}
	if impl.LiftTooLong != 1 || impl.LiftBadWord != 2 || impl.LiftTooDeep != 3 || impl.LiftTooMany != 4 {
		t.Errorf("%d, %d, %d, %d", impl.LiftTooLong, impl.LiftBadWord, impl.LiftTooDeep, impl.LiftTooMany)
	}
}
