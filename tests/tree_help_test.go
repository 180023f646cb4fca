package tests

import (
	"slices"
	"strings"

	"loop.example/tealang/impl"
)

func num(n int) impl.Tree {
	return impl.Tree{Sort: impl.TreeNum, Num: n}
}

func text(s string) impl.Tree {
	return impl.Tree{Sort: impl.TreeText, Text: s}
}

func flag(n int) impl.Tree {
	return impl.Tree{Sort: impl.TreeFlag, Num: n}
}

func list(kids ...impl.Tree) impl.Tree {
	return impl.Tree{Sort: impl.TreeList, Kids: kids}
}

func maybe(kids ...impl.Tree) impl.Tree {
	return impl.Tree{Sort: impl.TreeMaybe, Kids: kids}
}

// form takes its names with spaces between.
func form(names string, kids ...impl.Tree) impl.Tree {
	return impl.Tree{Sort: impl.TreeForm, Names: strings.Fields(names), Kids: kids}
}

func times(n int, t impl.Tree) []impl.Tree {
	return slices.Repeat([]impl.Tree{t}, n)
}

// nested has so many levels, by lists, forms and maybes in turn.
func nested(levels int) impl.Tree {
	t := num(1)
	for i := 1; i < levels; i++ {
		switch i % 3 {
		case 0:
			t = list(t)
		case 1:
			t = form("a", t)
		case 2:
			t = maybe(t)
		}
	}
	return t
}

// wide is a form of so many names of 8 bytes, each with this kid.
func wide(n int, kid impl.Tree) impl.Tree {
	t := impl.Tree{Sort: impl.TreeForm}
	for i := range n {
		t.Names = append(t.Names, "abcde"+string([]byte{byte('a' + i/100), byte('0' + i/10%10), byte('0' + i%10)}))
		t.Kids = append(t.Kids, kid)
	}
	return t
}

// sameTree takes the empty list and the nil list as one.
func sameTree(a, b impl.Tree) bool {
	return a.Sort == b.Sort && a.Num == b.Num && a.Text == b.Text &&
		slices.Equal(a.Names, b.Names) && slices.EqualFunc(a.Kids, b.Kids, sameTree)
}

func isNothing(t impl.Tree) bool {
	return sameTree(t, impl.Tree{})
}
