package tests

import (
	"math/rand"
	"slices"
	"testing"

	"loop.example/tealang/impl"
)

// grower makes trees that have all that their sort has, but may have too many levels or parts.
type grower struct {
	*rand.Rand
}

func (g grower) tree(levels int) impl.Tree {
	sort := 1 + g.Intn(3)
	if levels > 1 && g.Intn(4) > 0 {
		sort = 4 + g.Intn(3)
	}
	switch sort {
	case impl.TreeNum:
		return num(g.Intn(2*999999999+1) - 999999999)
	case impl.TreeText:
		return text(g.text())
	case impl.TreeFlag:
		return flag(g.Intn(2))
	case impl.TreeList:
		return list(g.trees(g.Intn(8), levels-1)...)
	case impl.TreeForm:
		names := g.names()
		return impl.Tree{Sort: impl.TreeForm, Names: names, Kids: g.trees(len(names), levels-1)}
	}
	return maybe(g.trees(g.Intn(2), levels-1)...)
}

func (g grower) trees(n, levels int) []impl.Tree {
	var out []impl.Tree
	for range n {
		out = append(out, g.tree(levels))
	}
	return out
}

func (g grower) text() string {
	bytes := make([]byte, g.Intn(61))
	for i := range bytes {
		bytes[i] = byte(32 + g.Intn(95))
		if bytes[i] == '"' {
			bytes[i] = '\''
		}
	}
	return string(bytes)
}

func (g grower) names() []string {
	const letters = "abyz019"
	var out []string
	for range g.Intn(6) {
		name := letters[g.Intn(4):][:1]
		for range g.Intn(8) {
			name += letters[g.Intn(7):][:1]
		}
		out = append(out, name)
	}
	slices.Sort(out)
	return slices.Compact(out)
}

func levelsOf(t impl.Tree) int {
	most := 0
	for _, kid := range t.Kids {
		most = max(most, levelsOf(kid))
	}
	return 1 + most
}

func partsOf(t impl.Tree) int {
	parts := 1
	for _, kid := range t.Kids {
		parts += partsOf(kid)
	}
	return parts
}

// Promises 1 and 2, of many trees on both sides of the bounds.
func TestTreeMany(t *testing.T) {
	g := grower{rand.New(rand.NewSource(1))}
	ok, deep, large := 0, 0, 0
	for range 20000 {
		x := g.tree(1 + g.Intn(9))
		levels, parts := levelsOf(x), partsOf(x)
		if levels > 6 || parts > 120 {
			mustBeRefused(t, "levels or parts", x)
			if levels > 6 {
				deep++
			} else {
				large++
			}
			continue
		}
		ok++
		s := impl.TreeWrite(x)
		back, read := impl.TreeRead(s)
		if !impl.TreeOk(x) || impl.TreeParts(x) != parts || !read || !sameTree(back, x) || len(s) > impl.TreeMaxWrite || s == "" {
			t.Fatalf("%v is written as %q, and read as %v", x, s, back)
		}
	}
	if ok < 1000 || deep < 100 || large < 100 {
		t.Errorf("too few: %d ok, %d deep, %d large", ok, deep, large)
	}
}
