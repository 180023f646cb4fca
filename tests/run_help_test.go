package tests

import (
	"maps"
	"math/big"
	"slices"
	"strconv"
	"strings"
	"testing"

	"loop.example/tealang/impl"
)

func treeOf(s string) impl.Tree {
	x, ok := impl.TreeRead(s)
	if !ok {
		panic(s + " is no tree")
	}
	return x
}

// boundTo takes a name, `=` and the text of its tree each.
func boundTo(all ...string) []impl.LiftBound {
	var out []impl.LiftBound
	for _, s := range all {
		name, tree, _ := strings.Cut(s, "=")
		out = append(out, impl.LiftBound{Name: name, Tree: treeOf(tree)})
	}
	return out
}

// someBound are names with a tree of each sort, and with some that are empty.
func someBound() []impl.LiftBound {
	return boundTo("n=7", "z=0", `s="abc"`, `e=""`, "f=yes", "g=no", "l=[3,-4,5]", "k=[]", `o={a:1,b:"x"}`, "q={}", "m=?4", "w=~")
}

// meaning is what LiftEval answers: the tree's text, or `!` and the code.
func meaning(vars []impl.LiftBound, n impl.LiftNode) string {
	x, code := impl.LiftEval(vars, n)
	switch {
	case code == 0 && impl.TreeOk(x):
		return impl.TreeWrite(x)
	case code != 0 && isNothing(x):
		return "!" + strconv.Itoa(code)
	}
	return "code " + strconv.Itoa(code) + " beside a tree of the sort " + strconv.Itoa(x.Sort)
}

func mustMean(t *testing.T, vars []impl.LiftBound, s string, answer string) {
	t.Helper()
	if got := meaning(vars, valueOf(s)); got != answer {
		t.Errorf("%s: %s, not %s", s, got, answer)
	}
}

// eventText is that of an event: the name and the version of a `send` stand ahead of the body, with `@` between.
func eventText(out impl.LiftOut) string {
	head := ""
	if out.Name != "" || out.Version != 0 {
		head = out.Name + "@" + strconv.Itoa(out.Version)
	}
	return head + impl.TreeWrite(out.Body)
}

// doing is what LiftRun answers: the events with a space between, `drop`, if there are none, or `!`, the code, and Why, if it is not 0.
func doing(n impl.LiftNode, old impl.Tree) string {
	return doneText(impl.LiftRun(n, old))
}

func doneText(done impl.LiftDone) string {
	var words []string
	if done.Code != 0 || done.Why != 0 {
		words = append(words, "!"+strconv.Itoa(done.Code))
	}
	if done.Why != 0 {
		words = append(words, strconv.Itoa(done.Why))
	}
	for _, out := range done.Outs {
		words = append(words, eventText(out))
	}
	if len(words) == 0 {
		return "drop"
	}
	return strings.Join(words, " ")
}

func mustDo(t *testing.T, old string, s string, answer string) {
	t.Helper()
	if got := doing(actionOf(s), treeOf(old)); got != answer {
		t.Errorf("%s of %s: %s, not %s", s, old, got, answer)
	}
}

// alsoBound binds a name behind all others.
func alsoBound(names []impl.LiftBound, name string, x impl.Tree) []impl.LiftBound {
	return append(slices.Clone(names), impl.LiftBound{Name: name, Tree: x})
}

// meantBy says a second time what a value means: a code is handed up, and nothing is made of a node ahead of that.
func meantBy(n impl.LiftNode, names []impl.LiftBound) (impl.Tree, int) {
	if n.Op <= impl.LiftEmpty {
		return leafMeant(n, names)
	}
	ahead := len(n.Kids)
	switch n.Op {
	case impl.LiftAnd, impl.LiftOr, impl.LiftIf, impl.LiftElse, impl.LiftCase, impl.LiftLet, impl.LiftMap, impl.LiftKeep:
		ahead = 1
	case impl.LiftFold:
		ahead = 2
	}
	var kids []impl.Tree
	for place := range ahead {
		kid, code := kidMeant(n, place, names, kids)
		if code != 0 {
			return impl.Tree{}, code
		}
		kids = append(kids, kid)
	}
	if ahead < len(n.Kids) {
		return restMeant(n, names, kids)
	}
	x, code := wholeMeant(n, kids)
	return inBounds(n.Op, x, code)
}

// inBounds stops at what is not ok, if it was made by an op that can make such.
func inBounds(op int, x impl.Tree, code int) (impl.Tree, int) {
	if code != 0 {
		return impl.Tree{}, code
	}
	if !impl.TreeOk(x) {
		if !slices.Contains([]int{impl.LiftSome, impl.LiftOne, impl.LiftPut, impl.LiftForm, impl.LiftJoin, impl.LiftMap, impl.LiftKeep}, op) {
			panic("a tree that is not ok by op " + strconv.Itoa(op))
		}
		return impl.Tree{}, impl.StopBig
	}
	return x, 0
}

func leafMeant(n impl.LiftNode, names []impl.LiftBound) (impl.Tree, int) {
	switch n.Op {
	case impl.LiftNone:
		return maybe(), 0
	case impl.LiftEmpty:
		return list(), 0
	case impl.LiftName:
		for _, b := range slices.Backward(names) {
			if b.Name == n.Names[0] {
				return b.Tree, 0
			}
		}
		return impl.Tree{}, impl.StopBroken
	}
	return impl.Tree{Sort: n.Op, Num: n.Num, Text: n.Text}, 0
}

// kidMeant does one kid, and looks at it, by the document's table of chapter 12.
func kidMeant(n impl.LiftNode, place int, names []impl.LiftBound, ahead []impl.Tree) (impl.Tree, int) {
	kid, code := meantBy(n.Kids[place], names)
	if code != 0 {
		return impl.Tree{}, code
	}
	if n.Op == impl.LiftForm {
		return kid, 0
	}
	want, _, _ := strings.Cut(kindRules()[opWords()[n.Op-5]][place], "/")
	sort := []string{"", "num", "text", "flag", "list", "form", "maybe"}[kid.Sort]
	switch {
	case want == "any" || want == "sink" || slices.Contains(strings.Split(want, "|"), sort):
		return kid, 0
	case want[0] == '=' && n.Op != impl.LiftLess && n.Op != impl.LiftJoin:
		return kid, 0
	case want == "=1" && kid.Sort == ahead[0].Sort:
		return kid, 0
	}
	return impl.Tree{}, impl.StopBroken
}

// restMeant is of the ops that do not do all their kids, or some of them many times.
func restMeant(n impl.LiftNode, names []impl.LiftBound, kids []impl.Tree) (impl.Tree, int) {
	first := kids[0]
	bound := func(x impl.Tree) []impl.LiftBound { return alsoBound(names, n.Names[0], x) }
	switch n.Op {
	case impl.LiftAnd:
		if first.Num == 0 {
			return flag(0), 0
		}
	case impl.LiftOr:
		if first.Num == 1 {
			return flag(1), 0
		}
	case impl.LiftIf:
		return kidMeant(n, 2-first.Num, names, kids)
	case impl.LiftElse:
		if len(first.Kids) == 1 {
			return first.Kids[0], 0
		}
	case impl.LiftCase:
		if len(first.Kids) == 0 {
			return kidMeant(n, 2, names, kids)
		}
		return kidMeant(n, 1, bound(first.Kids[0]), kids)
	case impl.LiftLet:
		return kidMeant(n, 1, bound(first), kids)
	case impl.LiftMap, impl.LiftKeep:
		return eachMeant(n, names, first)
	case impl.LiftFold:
		x := kids[1]
		for _, element := range first.Kids {
			made, code := kidMeant(n, 2, alsoBound(bound(x), n.Names[1], element), kids)
			if code != 0 {
				return impl.Tree{}, code
			}
			x = made
		}
		return x, 0
	}
	return kidMeant(n, 1, names, kids)
}

func eachMeant(n impl.LiftNode, names []impl.LiftBound, all impl.Tree) (impl.Tree, int) {
	x := list()
	for _, element := range all.Kids {
		made, code := kidMeant(n, 1, alsoBound(names, n.Names[0], element), []impl.Tree{all})
		switch {
		case code != 0:
			return impl.Tree{}, code
		case n.Op == impl.LiftMap:
			x.Kids = append(x.Kids, made)
		case made.Num == 1:
			x.Kids = append(x.Kids, element)
		}
	}
	return inBounds(n.Op, x, 0)
}

// wholeMeant is of the ops all whose kids are done, and are what they must be.
func wholeMeant(n impl.LiftNode, kids []impl.Tree) (impl.Tree, int) {
	switch n.Op {
	case impl.LiftSome:
		return maybe(kids...), 0
	case impl.LiftOne:
		return list(kids...), 0
	case impl.LiftAdd, impl.LiftSub, impl.LiftMul, impl.LiftDiv, impl.LiftRem:
		return numberMeant(n.Op, int64(kids[0].Num), int64(kids[1].Num))
	case impl.LiftLess:
		less := kids[0].Num < kids[1].Num || strings.Compare(kids[0].Text, kids[1].Text) < 0
		return flagOf(less), 0
	case impl.LiftSame:
		return flagOf(impl.TreeWrite(kids[0]) == impl.TreeWrite(kids[1])), 0
	case impl.LiftNot:
		return flag(1 - kids[0].Num), 0
	case impl.LiftForm:
		return impl.Tree{Sort: impl.TreeForm, Names: n.Names, Kids: kids}, 0
	case impl.LiftGet, impl.LiftPut, impl.LiftCut:
		return fieldMeant(n, kids)
	case impl.LiftAt, impl.LiftSize, impl.LiftJoin, impl.LiftPart:
		return placeMeant(n.Op, kids)
	case impl.LiftShow:
		return text(strconv.Itoa(kids[0].Num)), 0
	case impl.LiftRead:
		if x, ok := impl.TreeRead(kids[0].Text); ok && x.Sort == impl.TreeNum {
			return maybe(x), 0
		}
		return maybe(), 0
	}
	panic("op " + strconv.Itoa(n.Op))
}

func flagOf(yes bool) impl.Tree {
	if yes {
		return flag(1)
	}
	return flag(0)
}

// numberMeant reckons with numbers of any size; Quo and Rem go by what is towards 0.
func numberMeant(op int, first, second int64) (impl.Tree, int) {
	a, b, x := big.NewInt(first), big.NewInt(second), new(big.Int)
	switch {
	case op == impl.LiftAdd:
		x.Add(a, b)
	case op == impl.LiftSub:
		x.Sub(a, b)
	case op == impl.LiftMul:
		x.Mul(a, b)
	case second == 0:
		return impl.Tree{}, impl.StopZero
	case op == impl.LiftDiv:
		x.Quo(a, b)
	case op == impl.LiftRem:
		x.Rem(a, b)
	}
	if x.CmpAbs(big.NewInt(999999999)) > 0 {
		return impl.Tree{}, impl.StopOver
	}
	return num(int(x.Int64())), 0
}

func fieldMeant(n impl.LiftNode, kids []impl.Tree) (impl.Tree, int) {
	fields := map[string]impl.Tree{}
	for i, name := range kids[0].Names {
		fields[name] = kids[0].Kids[i]
	}
	x, had := fields[n.Names[0]]
	switch {
	case n.Op == impl.LiftPut:
		fields[n.Names[0]] = kids[1]
	case !had:
		return impl.Tree{}, impl.StopBroken
	case n.Op == impl.LiftGet:
		return x, 0
	}
	if n.Op == impl.LiftCut {
		delete(fields, n.Names[0])
	}
	out := impl.Tree{Sort: impl.TreeForm}
	for _, name := range slices.Sorted(maps.Keys(fields)) {
		out.Names = append(out.Names, name)
		out.Kids = append(out.Kids, fields[name])
	}
	return out, 0
}

// placeMeant takes a list or a text; of the two the other one is empty.
func placeMeant(op int, kids []impl.Tree) (impl.Tree, int) {
	x := impl.Tree{Sort: kids[0].Sort, Kids: kids[0].Kids, Text: kids[0].Text}
	size := len(x.Kids) + len(x.Text)
	switch op {
	case impl.LiftSize:
		return num(size), 0
	case impl.LiftJoin:
		x.Text += kids[1].Text
		x.Kids = slices.Concat(x.Kids, kids[1].Kids)
		return x, 0
	}
	from, to := kids[1].Num, kids[1].Num+1
	if op == impl.LiftPart {
		to = kids[2].Num
	}
	switch {
	case from < 0 || to < from || to > size:
		return impl.Tree{}, impl.StopIndex
	case op == impl.LiftAt:
		return x.Kids[from], 0
	case x.Sort == impl.TreeText:
		return text(x.Text[from:to]), 0
	}
	return list(x.Kids[from:to]...), 0
}

// doneBy says a second time what an action makes; Outs stand there beside a code too.
func doneBy(n impl.LiftNode, names []impl.LiftBound) impl.LiftDone {
	var kid impl.Tree
	if len(n.Kids) > 0 && n.Op != impl.LiftBoth {
		var code int
		kid, code = kidMeant(n, 0, names, nil)
		if code != 0 {
			return impl.LiftDone{Code: code}
		}
	}
	switch n.Op {
	case impl.LiftFail:
		return impl.LiftDone{Code: impl.StopRefused, Why: n.Num}
	case impl.LiftEmit, impl.LiftSend:
		if kid.Sort != impl.TreeForm {
			return impl.LiftDone{Code: impl.StopBroken}
		}
		return impl.LiftDone{Outs: []impl.LiftOut{{Name: strings.Join(n.Names, ""), Version: n.Num, Body: kid}}}
	case impl.LiftBoth:
		return behind(doneBy(n.Kids[0], names), doneBy(n.Kids[1], names))
	case impl.LiftChoose:
		return doneBy(n.Kids[2-kid.Num], names)
	case impl.LiftTake:
		return doneBy(n.Kids[1], alsoBound(names, n.Names[0], kid))
	case impl.LiftEach:
		done := impl.LiftDone{}
		for _, element := range kid.Kids {
			done = behind(done, doneBy(n.Kids[1], alsoBound(names, n.Names[0], element)))
		}
		return done
	}
	return impl.LiftDone{}
}

// behind is what comes of one and then of another; what the first one that stops tells.
func behind(one, other impl.LiftDone) impl.LiftDone {
	switch {
	case one.Code != 0:
		return one
	case other.Code != 0:
		return other
	}
	return impl.LiftDone{Outs: slices.Concat(one.Outs, other.Outs)}
}

// meaningAsSaid is what LiftEval must answer of a value and vars that are ok.
func meaningAsSaid(vars []impl.LiftBound, n impl.LiftNode) string {
	if costAsSaid(n) > 40000 {
		return "!6"
	}
	x, code := meantBy(n, vars)
	if code != 0 {
		return "!" + strconv.Itoa(code)
	}
	return impl.TreeWrite(x)
}

// doingAsSaid is what LiftRun must answer of an action and a form that are ok.
func doingAsSaid(n impl.LiftNode, old impl.Tree) string {
	if costAsSaid(n) > 40000 || fanAsSaid(n) > 400 {
		return "!6"
	}
	return doneText(doneBy(n, []impl.LiftBound{{Name: "old", Tree: old}}))
}
