package tests

import (
	"slices"
	"strconv"
	"strings"
	"testing"

	"loop.example/tealang/impl"
)

// someActions make no event, one, or some, or stop in each way; some of them only of some bodies.
func someActions() []string {
	return []string{
		"drop", "fail 0", "fail 7", "fail 99", "emit old", "emit form a 1 end", "send t 1 form end", "emit 5", "emit zzz", "emit form a add get n old 999999999 end", "emit form a div 1 get n old end", "emit form a at get l old get n old end", "emit form a join get l old get l old end",
		"both emit form a 1 end emit form a 2 end", "both emit form a 1 end fail 3", "both fail 4 emit old", "both emit old emit 1", "choose less get n old 1 emit form a 3 end fail 5", "choose less get n old 1 fail 6 emit form a 4 end", "choose get n old drop drop", "take x get n old emit form a x end", "take x div 1 get n old emit form a x end",
		"each x get l old emit form a x end", "each x get l old choose less x 0 fail 8 emit form a x end", "each x get l old both emit form a x end send t 2 form a x end", "each x get l old each y get l old emit form a x b y end", "each x get l old emit form a div 7 x end", "each x get n old drop", "take old 1 emit form a old end", "each old get l old emit form a old end",
	}
}

func someBodies() []impl.Tree {
	return []impl.Tree{
		treeOf("{l:[],n:0}"), treeOf("{l:[1],n:1}"), treeOf("{l:[1,-2,3],n:2}"), treeOf("{l:[3,0],n:-1}"), form("l n", list(times(20, num(1))...), num(3)), treeOf("{n:1}"), treeOf("{}"), treeOf(`{l:"a",n:1}`), treeOf(`{l:[1,"a"],n:no}`),
	}
}

// isInRunBounds is what promise 17 asks of two actions together.
func isInRunBounds(n impl.LiftNode) bool {
	return isInNodeBounds(n) && costAsSaid(n) <= 40000 && fanAsSaid(n) <= 400
}

// mustBeBehind is promise 17 of two actions: together they do what the one does, and then what the other does.
func mustBeBehind(t *testing.T, one, other impl.LiftNode, old impl.Tree) {
	t.Helper()
	both := node(impl.LiftBoth, "", one, other)
	want := doneText(behind(impl.LiftRun(one, old), impl.LiftRun(other, old)))
	if !isInRunBounds(both) {
		want = "!6"
	}
	if got := doing(both, old); got != want {
		t.Errorf("%s of %s: %s, not %s", nodeWords(both), impl.TreeWrite(old), got, want)
	}
}

// Promise 17, of all pairs of some actions.
func TestRunBoth(t *testing.T) {
	for _, a := range someActions() {
		for _, b := range someActions() {
			for _, old := range someBodies() {
				mustBeBehind(t, actionOf(a), actionOf(b), old)
			}
		}
	}
}

// Promise 17, of many actions; and of three, put together in both ways.
func TestRunBothMany(t *testing.T) {
	stopped, made := 0, 0
	for seed := range 3000 {
		g := newValueGrower(seed, 0, 30)
		from, sinks := g.aForm(3), g.someSinks()
		names := []impl.LiftVar{{Name: "old", Kind: from}}
		var all []impl.LiftNode
		for range 3 {
			g.left = 40
			all = append(all, g.action(names, sinks, 3+g.Intn(8)))
		}
		old := g.okTreeOf(from)
		mustBeBehind(t, all[0], all[1], old)
		left := node(impl.LiftBoth, "", node(impl.LiftBoth, "", all[0], all[1]), all[2])
		right := node(impl.LiftBoth, "", all[0], node(impl.LiftBoth, "", all[1], all[2]))
		done := impl.LiftRun(left, old)
		if isInRunBounds(left) && isInRunBounds(right) && doneText(done) != doing(right, old) {
			t.Errorf("%s: %s, but in the other way %s", nodeWords(left), doneText(done), doing(right, old))
		}
		if done.Code != 0 {
			stopped++
		} else if len(done.Outs) > 1 {
			made++
		}
	}
	if stopped < 500 || made < 200 {
		t.Errorf("too few: %d stopped, %d made several", stopped, made)
	}
}

// mustBeCut is promise 18 of one list and one action: wherever the list is cut, its two parts make what it makes.
func mustBeCut(t *testing.T, name string, all, action impl.LiftNode, old impl.Tree, size int) int {
	t.Helper()
	each := func(of impl.LiftNode) impl.LiftNode { return node(impl.LiftEach, name, of, action) }
	cuts := 0
	for cut := range size + 1 {
		first := each(node(impl.LiftPart, "", all, numNode(0), numNode(cut)))
		rest := each(node(impl.LiftPart, "", all, numNode(cut), numNode(size)))
		if !isInRunBounds(first) || !isInRunBounds(rest) {
			continue
		}
		got, want := doing(each(all), old), doneText(behind(impl.LiftRun(first, old), impl.LiftRun(rest, old)))
		if got != want {
			t.Errorf("%s of %s, cut at %d: %s, not %s", nodeWords(each(all)), impl.TreeWrite(old), cut, got, want)
		}
		cuts++
	}
	return cuts
}

// Promise 18, of some actions for each element, and of lists of no, one and many elements.
func TestRunEachIsCut(t *testing.T) {
	for _, s := range append(someActions(),
		"emit form x x end", "choose less x 0 fail 9 emit form x x end", "choose less x 3 emit form x x end fail 9", "emit form x div 6 x end", "emit form x add x 999999998 end", "emit form x at get l old x end", "both send t 1 form x x end choose same x 3 emit x drop", "each y get l old emit form x x y y end", "take x add x 1 emit form x x end", "choose same x 1 drop choose same x 2 fail 2 choose same x 3 emit zzz fail 4",
	) {
		for _, x := range []string{"[]", "[1]", "[0]", "[1,2,3]", "[3,2,1]", "[1,0,-1]", "[2,2]", "[1,2,3,4,5,6,7,8,9,10,11,12,13,14,15,16,17,18,19,20]", `[1,"a",3]`, "[{n:1},{n:2}]"} {
			size := len(treeOf(x).Kids)
			cuts := mustBeCut(t, "x", valueOf("get l old"), actionOf(s), form("l n", treeOf(x), num(1)), size)
			if cuts != size+1 && impl.LiftFan(actionOf(s)) <= 20 {
				t.Errorf("%s: %d cuts", s, cuts)
			}
		}
	}
}

// Promise 18, of many.
func TestRunEachIsCutMany(t *testing.T) {
	cuts, stopped, made := 0, 0, 0
	for seed := range 3000 {
		g := newValueGrower(seed, 0, 30)
		from, sinks, element, name := g.aForm(3), g.someSinks(), g.aKind(2), g.bindName()
		fields := map[string]impl.Kind{"list": listKind(element)}
		for i, field := range from.Names {
			fields[field] = from.Kids[i]
		}
		from = formOf(fields)
		g.left = 40
		action := g.action(with([]impl.LiftVar{{Name: "old", Kind: from}}, name, element), sinks, 3+g.Intn(8))
		old := g.okTreeOf(from)
		all := old.Kids[slices.Index(old.Names, "list")]
		cuts += mustBeCut(t, name, valueOf("get list old"), action, old, len(all.Kids))
		done := impl.LiftRun(node(impl.LiftEach, name, valueOf("get list old"), action), old)
		if done.Code != 0 {
			stopped++
		} else if len(done.Outs) > 1 {
			made++
		}
	}
	if cuts < 5000 || stopped < 300 || made < 100 {
		t.Errorf("too few: %d cuts, %d stopped, %d made several", cuts, stopped, made)
	}
}

// mustMeanTheSame is promise 19 of one value: a name more ahead of all others changes nothing.
func mustMeanTheSame(t *testing.T, vars []impl.LiftBound, n impl.LiftNode, more impl.LiftBound) {
	t.Helper()
	want, got := meaning(vars, n), meaning(append([]impl.LiftBound{more}, vars...), n)
	if got != want {
		t.Errorf("%s: with %s=%s more %s, not %s", nodeWords(n), more.Name, impl.TreeWrite(more.Tree), got, want)
	}
}

// Promise 19, of values that bind the same name within them, that use another one of it, and that do not have it at all; whether they stop or not.
func TestRunNameMore(t *testing.T) {
	vars := boundTo("n=7", "l=[1,2]", "m=?4", `s="abc"`)
	for _, s := range []string{
		"1", "n", "add n 1", "let x 1 x", "let x n add x x", "let x let x n x x", "map x l add x n", "map x l map x one x x", "keep x l less x 2", "case x m x n", "case x m let x x x n", "case x none num x n",
		"fold x y l 0 add x y", "fold y x l 0 add x y", "fold x a l n fold a x l x add a x", "form a let x 1 x b map x l x end", "add let x 1 x let x 2 x",
		"zzz", "add s n", "div n 0", "let x 0 div n x", "get q form end", "some some some some some some let x 1 x", "let x 1 let y x add x s", "map x s x", "form x 1 end", "get x form x 1 end", "put x form end 1", "cut x form x n end", "at l n", "mul 999999999 n",
	} {
		for _, tree := range []string{"1", `"a"`, "[1]", "{a:1}", "~", "no"} {
			for _, name := range []string{"x", "y", "a", "q", "old", "abcdefg9", "add", "end"} {
				mustMeanTheSame(t, vars, valueOf(s), impl.LiftBound{Name: name, Tree: treeOf(tree)})
			}
			// These are bound again behind it, so that it does not count.
			for _, name := range []string{"n", "l", "m", "s"} {
				mustMeanTheSame(t, vars, valueOf(s), impl.LiftBound{Name: name, Tree: treeOf(tree)})
			}
		}
		for _, c := range edgeTrees() {
			mustMeanTheSame(t, vars, valueOf(s), impl.LiftBound{Name: "x", Tree: c.tree})
		}
	}
	mustMean(t, nil, "x", "!6")
	mustMean(t, boundTo("x=1"), "x", "1")
}

// Promise 19, of many values.
func TestRunNameMoreMany(t *testing.T) {
	unused, bound, again := 0, 0, 0
	for seed := range 3000 {
		g := newValueGrower(seed, 0, 30)
		g.left = 60
		vars := g.someVars()
		n := g.of(g.aKind(3), vars, 3+g.Intn(10))
		trees := g.treesOf(vars)
		for _, name := range []string{"x", "y", "z", "old", "n", "items", "a", "q"} {
			isVar := slices.ContainsFunc(vars, func(v impl.LiftVar) bool { return v.Name == name })
			if uses(n, name) && !isVar {
				continue
			}
			mustMeanTheSame(t, trees, n, impl.LiftBound{Name: name, Tree: g.okTreeOf(g.aKind(3))})
			switch {
			case isVar:
				again++
			case slices.Contains(strings.Fields(nodeWords(n)), name):
				bound++
			default:
				unused++
			}
		}
	}
	if unused < 3000 || bound < 300 || again < 1000 {
		t.Errorf("too few: %d not there, %d bound within, %d bound again", unused, bound, again)
	}
}

// Many names ahead of all others, with many trees, change nothing either.
func TestRunManyNamesMore(t *testing.T) {
	var more []impl.LiftBound
	for i := range 2000 {
		more = append(more, impl.LiftBound{Name: "v" + strconv.Itoa(i), Tree: num(i)})
	}
	for s, answer := range ordinaryMeanings() {
		if got := meaning(append(slices.Clone(more), someBound()...), valueOf(s)); got != answer {
			t.Errorf("%s: %s, not %s", s, got, answer)
		}
	}
}
