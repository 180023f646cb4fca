package tests

import (
	"strings"
	"testing"

	"loop.example/tealang/impl"
)

type treeCase struct {
	what  string
	tree  impl.Tree
	text  string
	parts int
}

func ordinaryTrees() []treeCase {
	return []treeCase{
		{"nought", num(0), "0", 1},
		{"a number", num(407), "407", 1},
		{"a number below 0", num(-7), "-7", 1},
		{"the empty text", text(""), `""`, 1},
		{"a text", text("a b"), `"a b"`, 1},
		{"a text of marks", text(` !#[]{}:,~?\'`), `" !#[]{}:,~?\'"`, 1},
		{"a text like a number", text("01"), `"01"`, 1},
		{"yes", flag(1), "yes", 1},
		{"no", flag(0), "no", 1},
		{"the empty list", list(), "[]", 1},
		{"a list of one", list(flag(0)), "[no]", 2},
		{"a list of many sorts", list(num(1), text("x"), list(), form(""), maybe()), `[1,"x",[],{},~]`, 6},
		{"the empty form", form(""), "{}", 1},
		{"a form of one", form("z", num(-1)), "{z:-1}", 2},
		{"a form", form("a b", num(1), maybe(form("c", flag(0)))), "{a:1,b:?{c:no}}", 5},
		{"a beginning of a name ahead of it", form("a a0 a1 aa ab b", times(6, flag(1))...), "{a:yes,a0:yes,a1:yes,aa:yes,ab:yes,b:yes}", 7},
		{"names that are words", form("end no yes", list(), num(2), flag(1)), "{end:[],no:2,yes:yes}", 4},
		{"nothing", maybe(), "~", 1},
		{"something", maybe(num(5)), "?5", 2},
		{"nothing within something", maybe(maybe()), "?~", 2},
		{"a number below 0 within something", maybe(num(-5)), "?-5", 2},
	}
}

func edgeTrees() []treeCase {
	fours := list(times(20, list(times(4, num(1))...))...)
	return []treeCase{
		{"the greatest number", num(999999999), "999999999", 1},
		{"the least number", num(-999999999), "-999999999", 1},
		{"the longest text", text(strings.Repeat("x", 60)), `"` + strings.Repeat("x", 60) + `"`, 1},
		{"the least and the greatest byte", text(" !#~"), `" !#~"`, 1},
		{"the longest name", form("abcdefgh", num(1)), "{abcdefgh:1}", 2},
		{"the shortest name", form("a", num(1)), "{a:1}", 2},
		{"the last letter and digit", form("a9 z0", num(1), num(2)), "{a9:1,z0:2}", 3},
		{"the longest list", list(times(20, num(1))...), "[" + strings.Repeat("1,", 19) + "1]", 21},
		{"the most parts, by two lists", form("a b", fours, list(times(17, num(1))...)), "{a:[" + strings.Repeat("[1,1,1,1],", 19) + "[1,1,1,1]],b:[" + strings.Repeat("1,", 16) + "1]}", 120},
		{"the most levels, by lists", list(list(list(list(list(num(1)))))), "[[[[[1]]]]]", 6},
		{"the most levels, by forms", form("a", form("b", form("c", form("d", form("e", form("")))))), "{a:{b:{c:{d:{e:{}}}}}}", 6},
		{"the most levels, by maybes", maybe(maybe(maybe(maybe(maybe(maybe()))))), "?????~", 6},
		{"the most levels, in the last kid", list(num(1), list(), list(num(1), list(list(list(list()))))), "[1,[],[1,[[[[]]]]]]", 9},
	}
}

// Promise 1, the part on trees that are ok.
func TestTreeThereAndBack(t *testing.T) {
	for _, c := range append(ordinaryTrees(), edgeTrees()...) {
		if !impl.TreeOk(c.tree) {
			t.Errorf("%s: not ok", c.what)
		}
		if got := impl.TreeParts(c.tree); got != c.parts {
			t.Errorf("%s: %d parts, not %d", c.what, got, c.parts)
		}
		if got := impl.TreeWrite(c.tree); got != c.text {
			t.Errorf("%s: written as %s, not %s", c.what, got, c.text)
		}
		if got, ok := impl.TreeRead(c.text); !ok || !sameTree(got, c.tree) {
			t.Errorf("%s: %s is read as %v, %v", c.what, c.text, got, ok)
		}
	}
}

// Promise 1: the longest text that a tree can have is still one that is read.
func TestTreeLongestText(t *testing.T) {
	longest := wide(119, text(strings.Repeat("x", 60)))
	written := impl.TreeWrite(longest)
	if len(written) != 1+119*(8+1+62+1) {
		t.Fatalf("%d bytes", len(written))
	}
	if len(written) > impl.TreeMaxWrite || impl.TreeParts(longest) != 120 {
		t.Errorf("%d bytes, %d parts", len(written), impl.TreeParts(longest))
	}
	if got, ok := impl.TreeRead(written); !ok || !sameTree(got, longest) {
		t.Errorf("not read: %v", ok)
	}
}

// The empty list and the nil list are the same value.
func TestTreeEmptyLists(t *testing.T) {
	noNames, noKids := []string{}, []impl.Tree{}
	for sort := impl.TreeNum; sort <= impl.TreeMaybe; sort++ {
		bare := impl.Tree{Sort: sort}
		full := impl.Tree{Sort: sort, Names: noNames, Kids: noKids}
		if !impl.TreeOk(bare) || !impl.TreeOk(full) || impl.TreeWrite(bare) != impl.TreeWrite(full) {
			t.Errorf("sort %d", sort)
		}
	}
}

func TestTreeLimits(t *testing.T) {
	got := []int{impl.TreeMaxNum, impl.TreeMaxText, impl.TreeMaxName, impl.TreeMaxList, impl.TreeMaxParts, impl.TreeMaxDeep, impl.TreeMaxWrite}
	for i, want := range []int{999999999, 60, 8, 20, 120, 6, 10000} {
		if got[i] != want {
			t.Errorf("limit %d is %d, not %d", i, got[i], want)
		}
	}
}
