package tests

import (
	"math/rand"
	"slices"
	"testing"

	"loop.example/tealang/impl"
)

// kind makes schemas that have all that their sort has, but may have too many levels or parts.
func (g grower) kind(levels int) impl.Kind {
	sort := 1 + g.Intn(3)
	if levels > 1 && g.Intn(4) > 0 {
		sort = 4 + g.Intn(3)
	}
	switch sort {
	case impl.TreeList:
		return listKind(g.kind(levels - 1))
	case impl.TreeMaybe:
		return maybeKind(g.kind(levels - 1))
	case impl.TreeForm:
		k := impl.Kind{Sort: impl.TreeForm, Names: g.names()}
		for range k.Names {
			k.Kids = append(k.Kids, g.kind(levels-1))
		}
		return k
	}
	return impl.Kind{Sort: sort}
}

// treeOf is a tree of the schema, but may have too many parts.
func (g grower) treeOf(k impl.Kind) impl.Tree {
	x := impl.Tree{Sort: k.Sort, Names: slices.Clone(k.Names)}
	switch k.Sort {
	case impl.TreeNum:
		x.Num = g.Intn(2001) - 1000
	case impl.TreeText:
		x.Text = g.text()
	case impl.TreeFlag:
		x.Num = g.Intn(2)
	case impl.TreeForm:
		for _, kid := range k.Kids {
			x.Kids = append(x.Kids, g.treeOf(kid))
		}
	case impl.TreeList:
		for range g.listSize() {
			x.Kids = append(x.Kids, g.treeOf(k.Kids[0]))
		}
	case impl.TreeMaybe:
		for range g.Intn(2) {
			x.Kids = append(x.Kids, g.treeOf(k.Kids[0]))
		}
	}
	return x
}

// listSize is a small one, as a rule, so that most trees are ok.
func (g grower) listSize() int {
	if g.Intn(4) == 0 {
		return g.Intn(21)
	}
	return g.Intn(4)
}

// spoilt is the tree with one part, at random, made another one.
func (g grower) spoilt(x impl.Tree) impl.Tree {
	if len(x.Kids) == 0 || g.Intn(3) == 0 {
		return g.tree(2)
	}
	x.Kids = slices.Clone(x.Kids)
	at := g.Intn(len(x.Kids))
	x.Kids[at] = g.spoilt(x.Kids[at])
	return x
}

// isOfKind says what chapter 2 says, of what is ok.
func isOfKind(k impl.Kind, x impl.Tree) bool {
	if k.Sort != x.Sort || !slices.Equal(k.Names, x.Names) {
		return false
	}
	for i, kid := range x.Kids {
		place := 0
		if k.Sort == impl.TreeForm {
			place = i
		}
		if !isOfKind(k.Kids[place], kid) {
			return false
		}
	}
	return true
}

func firstOf(k impl.Kind) impl.Tree {
	x := impl.Tree{Sort: k.Sort, Names: k.Names}
	if k.Sort == impl.TreeForm {
		for _, kid := range k.Kids {
			x.Kids = append(x.Kids, firstOf(kid))
		}
	}
	return x
}

// Promises 3 and 4, of many schemas on both sides of the bounds.
func TestKindMany(t *testing.T) {
	g := grower{rand.New(rand.NewSource(2))}
	ok, deep, large := 0, 0, 0
	for range 40000 {
		k := g.kind(1 + g.Intn(8))
		if kindLevels(k) > 6 {
			deep++
			mustBeNoKind(t, "levels", k)
			continue
		}
		if kindParts(k) > 40 {
			large++
			mustBeNoKind(t, "parts", k)
			continue
		}
		ok++
		s := impl.KindWrite(k)
		back, read := impl.KindRead(s)
		if !impl.KindOk(k) || !read || !sameKind(back, k) || s == "" || len(s) > impl.KindMaxWrite {
			t.Fatalf("%v is written as %q, and read as %v", k, s, back)
		}
		first := impl.KindFirst(k)
		if !sameTree(first, firstOf(k)) || !impl.KindHas(k, first) || impl.TreeParts(first) < 1 || impl.TreeParts(first) > impl.KindMaxParts {
			t.Fatalf("the first tree of %s is %v", s, first)
		}
	}
	if ok < 1000 || deep < 100 || large < 100 {
		t.Errorf("too few: %d ok, %d deep, %d large", ok, deep, large)
	}
}

// Promise 5, its first half, of many trees that are of a schema, and of many that are so but for one part.
func TestKindHasMany(t *testing.T) {
	g := grower{rand.New(rand.NewSource(3))}
	of, others := 0, 0
	for range 20000 {
		k := g.kind(1 + g.Intn(6))
		x := g.treeOf(k)
		if g.Intn(2) == 0 {
			x = g.spoilt(x)
		}
		if !impl.KindOk(k) || !impl.TreeOk(x) {
			if impl.KindHas(k, x) {
				t.Fatalf("%v is of %v", x, k)
			}
			continue
		}
		want := isOfKind(k, x)
		if staysOf(t, k, x) != want {
			t.Fatalf("%s is of %s: %v", impl.TreeWrite(x), impl.KindWrite(k), !want)
		}
		if want {
			of++
		} else {
			others++
		}
	}
	if of < 1000 || others < 1000 {
		t.Errorf("too few: %d of their schema, %d not", of, others)
	}
}
