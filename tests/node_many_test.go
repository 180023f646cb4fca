package tests

import (
	"math/rand"
	"slices"
	"strings"
	"testing"

	"loop.example/tealang/impl"
)

// Promises 12 and 13, of many actions on both sides of the bounds, and of what comes of their texts when some words or bytes are changed.
func TestNodeMany(t *testing.T) {
	g := grower{rand.New(rand.NewSource(7))}
	ok, not, read := 0, 0, 0
	faults := map[int]int{}
	for range 4000 {
		n := g.action()
		good := nodesOf(n) <= 200 && nodeLevels(n) <= 24 && len(nodeWords(n)) <= 3000
		if good {
			ok++
			mustComeBackNode(t, n)
		} else {
			not++
			mustBeNoAction(t, "beyond the bounds", n)
		}
		s := nodeWords(n)
		if parsesAsSaid(t, s) != good {
			t.Errorf("%q: read %v", s, !good)
		}
		for range 3 {
			changed := g.otherWords(s)
			if parsesAsSaid(t, changed) {
				read++
			}
			_, fault := parsed(changed)
			faults[fault.Code]++
		}
		parsesAsSaid(t, g.changed(s))
		parsesAsSaid(t, g.otherBlanks(s))
	}
	if ok < 1000 || not < 100 || read < 100 || faults[1] < 50 || faults[2] < 1000 || faults[3] < 50 || faults[4] < 50 {
		t.Errorf("too few: %d ok, %d not ok, %d read when changed, faults %v", ok, not, read, faults)
	}
}

// action has up to some 260 nodes, 28 levels.
func (g grower) action() impl.LiftNode {
	nodes := 1 + g.Intn(20)
	if g.Intn(2) == 0 {
		nodes = 1 + g.Intn(260)
	}
	n := g.nodeOf(impl.LiftDrop, impl.LiftEach, &nodes, 1+g.Intn(28))
	if g.Intn(2) == 0 {
		n = longTexts(n)
	}
	return n
}

// longTexts has the longest texts there are.
func longTexts(n impl.LiftNode) impl.LiftNode {
	if n.Op == impl.LiftText {
		n.Text = strings.Repeat("t ", 30)
	}
	for i, kid := range n.Kids {
		n.Kids[i] = longTexts(kid)
	}
	return n
}

func (g grower) nodeOf(first, last int, left *int, levels int) impl.LiftNode {
	*left--
	if *left <= 0 || levels == 1 {
		return g.shortNode(first)
	}
	n := impl.LiftNode{Op: first + g.Intn(last-first+1)}
	if n.Op <= impl.LiftName || n.Op == impl.LiftDrop || n.Op == impl.LiftFail {
		return g.shortNode(first)
	}
	for _, what := range strings.Fields(opTable()[n.Op-5])[1:] {
		switch what {
		case "K":
			n.Text = impl.KindWrite(g.shortKind())
		case "VERSION":
			n.Num = 1 + g.Intn(12)
		case "N":
			n.Names = append(n.Names, g.word())
		case "X", "Y":
			n.Names = append(n.Names, "xyz"[len(n.Names):][:1]+[]string{"", "0", "abcdefg"}[g.Intn(3)])
		case "F":
			n.Names = slices.DeleteFunc(g.names(), func(name string) bool { return name == "end" })
			for range n.Names {
				n.Kids = append(n.Kids, g.nodeOf(impl.LiftNum, impl.LiftFold, left, levels-1))
			}
		case "V":
			n.Kids = append(n.Kids, g.nodeOf(impl.LiftNum, impl.LiftFold, left, levels-1))
		case "A":
			n.Kids = append(n.Kids, g.nodeOf(impl.LiftDrop, impl.LiftEach, left, levels-1))
		}
	}
	return n
}

// shortNode has no kids: a value, if first is that of values, else an action.
func (g grower) shortNode(first int) impl.LiftNode {
	if first >= impl.LiftDrop {
		if g.Intn(2) == 0 {
			return dropNode()
		}
		return failNode(g.Intn(100))
	}
	switch g.Intn(4) {
	case 0:
		return numNode(g.Intn(2001) - 1000)
	case 1:
		return textNode(g.text())
	case 2:
		return flagNode(g.Intn(2))
	}
	return nameNode("old")
}

func (g grower) shortKind() impl.Kind {
	for {
		if k := g.kind(1 + g.Intn(3)); impl.KindOk(k) {
			return k
		}
	}
}

// word is a name, that of an op now and then.
func (g grower) word() string {
	all := append(opWords(), "yes", "no", "end", "a", "b1", "n", "items")
	return all[g.Intn(len(all))]
}

// otherWords leaves some words out, puts some in, and takes others for some.
func (g grower) otherWords(s string) string {
	words := wordForm.FindAllString(s, -1)
	others := append(opWords(), "yes", "no", "end", "x", "old", "0", "7", "12", "-1", `"q"`, "num", "?num", "%", "01", words[g.Intn(len(words))])
	for range 1 + g.Intn(3) {
		at := g.Intn(len(words))
		switch g.Intn(3) {
		case 0:
			words = slices.Insert(words, at, others[g.Intn(len(others))])
		case 1:
			words[at] = others[g.Intn(len(others))]
		case 2:
			if len(words) > 1 {
				words = slices.Delete(words, at, at+1)
			}
		}
	}
	return strings.Join(words, " ")
}

// otherBlanks has other blanks between words, none where a word begins with a quote or is one.
func (g grower) otherBlanks(s string) string {
	out := ""
	for _, word := range wordForm.FindAllString(s, -1) {
		if !strings.HasSuffix(out, `"`) {
			out += []string{" ", "\n", " \n", "  "}[g.Intn(4)]
		}
		out += word
	}
	return out + strings.Repeat("\n", g.Intn(2))
}
