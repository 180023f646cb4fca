package tests

import (
	"slices"
	"strings"
	"testing"

	"loop.example/tealang/impl"
)

func mustBeNoAction(t *testing.T, what string, n impl.LiftNode) {
	t.Helper()
	if impl.LiftOk(n) || impl.LiftWrite(n) != "" {
		t.Errorf("%s: ok %v, written as %.80q", what, impl.LiftOk(n), impl.LiftWrite(n))
	}
}

// A value is no action, nor is nothing, nor what has no op.
func TestNodeNoAction(t *testing.T) {
	mustBeNoAction(t, "nothing", impl.LiftNode{})
	for _, c := range ordinaryNodes() {
		if c.node.Op == impl.LiftEmit {
			mustBeNoAction(t, c.what+", a value", c.node.Kids[0])
			mustBeNoAction(t, c.what+", an action as a value", emitNode(c.node))
		}
	}
	for _, op := range []int{0, -1, 44, 45, 100, 255, 256 + 36, 1<<16 + 36, -36, int(^uint(0) >> 1), -int(^uint(0)>>1) - 1} {
		mustBeNoAction(t, "no op", impl.LiftNode{Op: op})
		mustBeNoAction(t, "no op, with a kid", impl.LiftNode{Op: op, Kids: []impl.LiftNode{numNode(1)}})
		mustBeNoAction(t, "no op as a value", emitNode(impl.LiftNode{Op: op}))
		mustBeNoAction(t, "no op as an action", node(impl.LiftBoth, "", dropNode(), impl.LiftNode{Op: op}))
		mustBeNoAction(t, "no op in a form", emitNode(node(impl.LiftForm, "a", impl.LiftNode{Op: op})))
	}
}

// A value where an action is wanted, and an action where a value is, in each op at each kid.
func TestNodeKidsOfTheOtherSort(t *testing.T) {
	for _, c := range ordinaryNodes() {
		top := c.node
		if top.Op == impl.LiftEmit {
			top = top.Kids[0]
		}
		for i, kid := range top.Kids {
			n := top
			n.Kids = slices.Clone(top.Kids)
			n.Kids[i] = dropNode()
			if kid.Op >= impl.LiftDrop {
				n.Kids[i] = numNode(1)
			}
			if n.Op < impl.LiftDrop {
				n = emitNode(n)
			}
			mustBeNoAction(t, c.what, n)
		}
	}
}

// variants are what comes of a node by a change of one thing of it.
func variants(n impl.LiftNode) []impl.LiftNode {
	var out []impl.LiftNode
	with := func(change func(v *impl.LiftNode)) {
		v := n
		v.Names, v.Kids = slices.Clone(n.Names), slices.Clone(n.Kids)
		change(&v)
		out = append(out, v)
	}
	for _, num := range []int{0, 1, -1, 2, 13, 100, impl.TreeMaxNum, impl.TreeMaxNum + 1, -impl.TreeMaxNum - 1} {
		with(func(v *impl.LiftNode) { v.Num = num })
	}
	for _, text := range []string{"", "x", "num", "old", " ", "\n", "\"", "{b:num,a:num}", strings.Repeat("x", 61), strings.Repeat("?", 7) + "num"} {
		with(func(v *impl.LiftNode) { v.Text = text })
	}
	for _, name := range []string{"a", "zz", "", "A", "9", "add", "yes", "end", "a b", "abcdefghi", "é", "x\n"} {
		with(func(v *impl.LiftNode) { v.Names = append(v.Names, name) })
		for i := range n.Names {
			with(func(v *impl.LiftNode) { v.Names[i] = name })
		}
	}
	for _, kid := range []impl.LiftNode{numNode(1), dropNode(), {}, {Op: impl.LiftText, Num: 1}} {
		with(func(v *impl.LiftNode) { v.Kids = append(v.Kids, kid) })
		with(func(v *impl.LiftNode) { v.Names, v.Kids = append(v.Names, "zzzz"), append(v.Kids, kid) })
		for i := range n.Kids {
			with(func(v *impl.LiftNode) { v.Kids[i] = kid })
		}
	}
	for i := range n.Names {
		with(func(v *impl.LiftNode) { v.Names = slices.Delete(v.Names, i, i+1) })
	}
	for i := range n.Kids {
		with(func(v *impl.LiftNode) { v.Kids = slices.Delete(v.Kids, i, i+1) })
	}
	with(func(v *impl.LiftNode) { slices.Reverse(v.Names) })
	with(func(v *impl.LiftNode) { v.Names = nil })
	with(func(v *impl.LiftNode) { v.Kids = nil })
	for op := -1; op <= 45; op++ {
		with(func(v *impl.LiftNode) { v.Op = op })
	}
	return out
}

// A node with a Num, a Text, Names or Kids that its op has not, or without what it has: as the top and below it.
func TestNodeVariants(t *testing.T) {
	ok, not := 0, 0
	look := func(what string, n impl.LiftNode) {
		if isGoodNode(n) {
			mustComeBackNode(t, n)
			ok++
		} else {
			mustBeNoAction(t, what+" changed to "+nodeWords(n), n)
			not++
		}
	}
	for _, c := range ordinaryNodes() {
		for _, v := range variants(c.node) {
			look(c.what, v)
		}
		for i := range c.node.Kids {
			for _, v := range variants(c.node.Kids[i]) {
				n := c.node
				n.Kids = slices.Clone(n.Kids)
				n.Kids[i] = v
				look(c.what, n)
			}
		}
	}
	if ok < 300 || not < 3000 {
		t.Errorf("too few: %d ok, %d not ok", ok, not)
	}
}

// wrongValues are each wrong in one thing alone.
func wrongValues() map[string]impl.LiftNode {
	one, old := numNode(1), nameNode("old")
	return map[string]impl.LiftNode{
		"a number too great":             numNode(1000000000),
		"a number too small":             numNode(-1000000000),
		"a number with a Text":           {Op: impl.LiftNum, Num: 1, Text: "1"},
		"a number with a name":           {Op: impl.LiftNum, Num: 1, Names: []string{"a"}},
		"a number with a kid":            {Op: impl.LiftNum, Num: 1, Kids: []impl.LiftNode{one}},
		"a text too long":                textNode(strings.Repeat("x", 61)),
		"a text with a quote":            textNode(`a"b`),
		"a text with a newline":          textNode("a\nb"),
		"a text beyond 126":              textNode("é"),
		"a text with a Num":              {Op: impl.LiftText, Text: "a", Num: 1},
		"a text with a name":             {Op: impl.LiftText, Text: "a", Names: []string{"a"}},
		"a text with a kid":              {Op: impl.LiftText, Text: "a", Kids: []impl.LiftNode{one}},
		"a flag of 2":                    flagNode(2),
		"a flag of -1":                   flagNode(-1),
		"a flag with a Text":             {Op: impl.LiftFlag, Num: 1, Text: "yes"},
		"a name that is none":            nameNode(""),
		"a name too long":                nameNode("abcdefghi"),
		"a name that is a number":        nameNode("1"),
		"a name with a space":            nameNode("a b"),
		"a name as the Text":             {Op: impl.LiftName, Text: "old"},
		"a name and a Text":              {Op: impl.LiftName, Names: []string{"old"}, Text: "old"},
		"a name with a Num":              {Op: impl.LiftName, Names: []string{"old"}, Num: 1},
		"a name with a kid":              {Op: impl.LiftName, Names: []string{"old"}, Kids: []impl.LiftNode{one}},
		"no name":                        {Op: impl.LiftName},
		"two names":                      node(impl.LiftName, "a b"),
		"none without a schema":          kindNode(impl.LiftNone, ""),
		"none of a space":                kindNode(impl.LiftNone, " num"),
		"none of two words":              kindNode(impl.LiftNone, "num num"),
		"none of a tree":                 kindNode(impl.LiftNone, "{a:1}"),
		"none of 7 levels":               kindNode(impl.LiftNone, "??????num"),
		"none of 41 parts":               kindNode(impl.LiftNone, bigKindText(40)),
		"empty of 7 levels":              kindNode(impl.LiftEmpty, "[[[[[[num]]]]]]"),
		"empty of 41 parts":              kindNode(impl.LiftEmpty, bigKindText(40)),
		"empty of names not ascending":   kindNode(impl.LiftEmpty, "{b:num,a:num}"),
		"none with a Num":                {Op: impl.LiftNone, Text: "num", Num: 1},
		"none with a kid":                {Op: impl.LiftNone, Text: "num", Kids: []impl.LiftNode{one}},
		"some without a kid":             node(impl.LiftSome, ""),
		"some with two":                  node(impl.LiftSome, "", one, one),
		"add with one":                   node(impl.LiftAdd, "", one),
		"add with three":                 node(impl.LiftAdd, "", one, one, one),
		"add with a name":                node(impl.LiftAdd, "a", one, one),
		"if with two":                    node(impl.LiftIf, "", one, one),
		"let without a name":             node(impl.LiftLet, "", one, one),
		"let with two names":             node(impl.LiftLet, "a b", one, one),
		"get without a name":             node(impl.LiftGet, "", old),
		"get of no name":                 node(impl.LiftGet, "A", old),
		"get of a name too long":         node(impl.LiftGet, "abcdefghi", old),
		"fold with one name":             node(impl.LiftFold, "a", old, one, one),
		"fold with three names":          node(impl.LiftFold, "a b c", old, one, one),
		"fold with names alike":          node(impl.LiftFold, "a a", old, one, one),
		"fold with two kids":             node(impl.LiftFold, "a b", old, one),
		"form with a name too few":       node(impl.LiftForm, "a", one, one),
		"form with a name too many":      node(impl.LiftForm, "a b", one),
		"form with names alike":          node(impl.LiftForm, "a a", one, one),
		"form with names not ascending":  node(impl.LiftForm, "b a", one, one),
		"form with the longer one first": node(impl.LiftForm, "aa a", one, one),
		"form with a last one too low":   node(impl.LiftForm, "a c b", one, one, one),
		"form with the name end":         node(impl.LiftForm, "end", one),
		"form with end among others":     node(impl.LiftForm, "a end z", one, one, one),
		"form with what is no name":      node(impl.LiftForm, "A", one),
		"form with a Text":               {Op: impl.LiftForm, Text: "end"},
		"form with a Num":                {Op: impl.LiftForm, Num: 1},
		"form with an action":            node(impl.LiftForm, "a", dropNode()),
	}
}

// bigKindText is the text of a form's schema, whether it is ok or not.
func bigKindText(names int) string {
	var out []string
	for _, name := range wideKind(names, numKind()).Names {
		out = append(out, name+":num")
	}
	return "{" + strings.Join(out, ",") + "}"
}

// What is wrong in a value is wrong wherever that stands.
func TestNodeWrongValues(t *testing.T) {
	one := numNode(1)
	for what, v := range wrongValues() {
		mustBeNoAction(t, what, v)
		mustBeNoAction(t, what, emitNode(v))
		mustBeNoAction(t, what+", behind", emitNode(node(impl.LiftIf, "", one, one, v)))
		mustBeNoAction(t, what+", in a form", emitNode(node(impl.LiftForm, "a b", one, v)))
		mustBeNoAction(t, what+", in each", node(impl.LiftEach, "x", v, dropNode()))
		mustBeNoAction(t, what+", below", node(impl.LiftBoth, "", dropNode(), node(impl.LiftChoose, "", one, dropNode(), sendNode("a", 1, node(impl.LiftNot, "", v)))))
	}
}

// What is wrong in an action is wrong wherever that stands.
func TestNodeWrongActions(t *testing.T) {
	one, drop := numNode(1), dropNode()
	for what, n := range map[string]impl.LiftNode{
		"drop with a Num":        {Op: impl.LiftDrop, Num: 1},
		"drop with a Text":       {Op: impl.LiftDrop, Text: "x"},
		"drop with a name":       {Op: impl.LiftDrop, Names: []string{"a"}},
		"drop with a kid":        node(impl.LiftDrop, "", drop),
		"fail below 0":           failNode(-1),
		"fail beyond 99":         failNode(100),
		"fail with a Text":       {Op: impl.LiftFail, Text: "1"},
		"fail with a name":       {Op: impl.LiftFail, Names: []string{"a"}},
		"fail with a kid":        node(impl.LiftFail, "", one),
		"emit without a kid":     node(impl.LiftEmit, ""),
		"emit with two":          node(impl.LiftEmit, "", one, one),
		"emit with a name":       node(impl.LiftEmit, "a", one),
		"emit with a Num":        {Op: impl.LiftEmit, Num: 1, Kids: []impl.LiftNode{one}},
		"emit of an action":      emitNode(drop),
		"send of version 0":      sendNode("a", 0, one),
		"send of version 13":     sendNode("a", 13, one),
		"send of version -1":     sendNode("a", -1, one),
		"send to no name":        sendNode("", 1, one),
		"send to what is none":   sendNode("A", 1, one),
		"send to a long name":    sendNode("abcdefghi", 1, one),
		"send without a name":    {Op: impl.LiftSend, Num: 1, Kids: []impl.LiftNode{one}},
		"send with two names":    {Op: impl.LiftSend, Num: 1, Names: []string{"a", "b"}, Kids: []impl.LiftNode{one}},
		"send with a Text":       {Op: impl.LiftSend, Num: 1, Text: "a", Names: []string{"a"}, Kids: []impl.LiftNode{one}},
		"send without a kid":     {Op: impl.LiftSend, Num: 1, Names: []string{"a"}},
		"send of an action":      sendNode("a", 1, drop),
		"both with one":          node(impl.LiftBoth, "", drop),
		"both with three":        node(impl.LiftBoth, "", drop, drop, drop),
		"both of a value":        node(impl.LiftBoth, "", one, drop),
		"both with a value last": node(impl.LiftBoth, "", drop, one),
		"choose of an action":    node(impl.LiftChoose, "", drop, drop, drop),
		"choose of values":       node(impl.LiftChoose, "", one, one, one),
		"choose with two":        node(impl.LiftChoose, "", one, drop),
		"take without a name":    node(impl.LiftTake, "", one, drop),
		"take of what is none":   node(impl.LiftTake, "A", one, drop),
		"take of an action":      node(impl.LiftTake, "x", drop, drop),
		"take with a value last": node(impl.LiftTake, "x", one, one),
		"each with two names":    node(impl.LiftEach, "x y", one, drop),
		"each with a value last": node(impl.LiftEach, "x", one, one),
		"each of an action":      node(impl.LiftEach, "x", drop, drop),
	} {
		mustBeNoAction(t, what, n)
		mustBeNoAction(t, what+", first", node(impl.LiftBoth, "", n, drop))
		mustBeNoAction(t, what+", last", node(impl.LiftBoth, "", drop, n))
		mustBeNoAction(t, what+", below", node(impl.LiftTake, "x", one, node(impl.LiftChoose, "", one, drop, node(impl.LiftEach, "y", one, n))))
	}
}

// One node, one level, one byte of text more than the bounds.
func TestNodeBeyondTheBounds(t *testing.T) {
	mustBeNoAction(t, "201 nodes", emitNode(formNode(199, numNode(1))))
	mustBeNoAction(t, "201 nodes, the last one deep", emitNode(deepAndMany(177, 22)))
	mustBeNoAction(t, "25 levels", emitNode(notNode(24)))
	mustBeNoAction(t, "25 levels of actions", bothNode(25))
	mustBeNoAction(t, "25 levels behind", node(impl.LiftBoth, "", dropNode(), bothNode(24)))
	mustBeNoAction(t, "25 levels of the most nodes", emitNode(deepAndMany(175, 23)))
	mustBeNoAction(t, "3001 bytes", longNode(3001))
	mustBeNoAction(t, "3045 bytes", longNode(3045))
	for size := 2985; size <= 3000; size++ {
		if got := len(impl.LiftWrite(longNode(size))); got != size {
			t.Errorf("%d bytes, not %d", got, size)
		}
	}
	kinds := formNode(10, kindNode(impl.LiftNone, bigKindText(39)))
	mustBeNoAction(t, "few nodes with long schemas", emitNode(kinds))
}

// A node that is a kid of itself, or that has its kids many times over, is told of at once.
func TestNodeWithoutEnd(t *testing.T) {
	self := node(impl.LiftBoth, "", dropNode(), dropNode())
	self.Kids[0] = self
	mustBeNoAction(t, "the first kid of itself", self)
	last := node(impl.LiftBoth, "", dropNode(), dropNode())
	last.Kids[1] = last
	mustBeNoAction(t, "the last kid of itself", last)
	huge := dropNode()
	for range 23 {
		huge = node(impl.LiftBoth, "", huge, huge)
	}
	mustBeNoAction(t, "two kids on 24 levels", huge)
	for range 40 {
		huge = node(impl.LiftBoth, "", huge, huge)
	}
	mustBeNoAction(t, "two kids on 64 levels", huge)
	wide := node(impl.LiftIf, "", numNode(1), numNode(1), numNode(1))
	for range 22 {
		wide = node(impl.LiftIf, "", wide, wide, wide)
	}
	mustBeNoAction(t, "three kids on 24 levels", emitNode(wide))
	mustBeNoAction(t, "many kids", impl.LiftNode{Op: impl.LiftBoth, Kids: slices.Repeat([]impl.LiftNode{dropNode()}, 100000)})
	mustBeNoAction(t, "many names", emitNode(formNode(8000, numNode(1))))
	mustBeNoAction(t, "a long Text", emitNode(textNode(strings.Repeat("x", 10000000))))
	mustBeNoAction(t, "a long schema", emitNode(kindNode(impl.LiftNone, strings.Repeat("?", 10000000)+"num")))
	mustBeNoAction(t, "a long name", emitNode(nameNode(strings.Repeat("x", 10000000))))
}
