package tests

import (
	"math/rand"
	"slices"
	"strings"
	"testing"

	"loop.example/tealang/impl"
)

// valueGrower grows values of given schemas; now and then one slips, if it may.
type valueGrower struct {
	grower
	left  int
	slips int // one of so many is wrong; none, if it is 0
}

// aKind has at most so many levels, and no name `end`.
func (g grower) aKind(levels int) impl.Kind {
	sort := 1 + g.Intn(6)
	if levels == 1 {
		sort = 1 + g.Intn(3)
	}
	switch sort {
	case impl.TreeList:
		return listKind(g.aKind(levels - 1))
	case impl.TreeMaybe:
		return maybeKind(g.aKind(levels - 1))
	case impl.TreeForm:
		return g.aForm(levels)
	}
	return impl.Kind{Sort: sort}
}

func (g grower) aForm(levels int) impl.Kind {
	fields := map[string]impl.Kind{}
	for range g.Intn(4) {
		fields[[]string{"a", "b", "items", "n", "add"}[g.Intn(5)]] = g.aKind(levels - 1)
	}
	return formOf(fields)
}

func (g grower) bindName() string {
	return []string{"x", "y", "z", "old", "n", "items"}[g.Intn(6)]
}

// with binds a name, the last one counting.
func with(names []impl.LiftVar, name string, k impl.Kind) []impl.LiftVar {
	return append(slices.Clone(names), impl.LiftVar{Name: name, Kind: k})
}

// visible are the names that have just this schema, the last one of each counting.
func visible(names []impl.LiftVar, k impl.Kind) []string {
	last := map[string]impl.Kind{}
	for _, v := range names {
		last[v.Name] = v.Kind
	}
	var out []string
	for name, kind := range last {
		if sameKind(kind, k) {
			out = append(out, name)
		}
	}
	slices.Sort(out)
	return out
}

// of is a value of a schema.
func (g *valueGrower) of(k impl.Kind, names []impl.LiftVar, levels int) impl.LiftNode {
	g.left--
	if g.slips > 0 && g.Intn(g.slips) == 0 {
		return g.slip(k, names, levels)
	}
	if g.left <= 0 || levels <= 1 {
		return g.plain(k, names)
	}
	switch g.Intn(3) {
	case 0:
		return g.chosen(k, names, levels-1)
	case 1:
		return g.reckoned(k, names, levels-1)
	}
	return g.plain(k, names)
}

// slip is wrong, most often.
func (g *valueGrower) slip(k impl.Kind, names []impl.LiftVar, levels int) impl.LiftNode {
	switch g.Intn(5) {
	case 0:
		return nameNode("nowhere")
	case 1:
		return node(impl.LiftGet, "zzz", g.of(g.aForm(2), names, levels-1))
	case 2:
		return valueOf("some one some one some some 1")
	case 3:
		return nameNode(g.bindName())
	}
	return g.plain(g.aKind(3), names)
}

func (g *valueGrower) plain(k impl.Kind, names []impl.LiftVar) impl.LiftNode {
	if all := visible(names, k); len(all) > 0 && g.Intn(2) == 0 {
		return nameNode(all[g.Intn(len(all))])
	}
	switch k.Sort {
	case impl.TreeNum:
		return numNode(g.Intn(21) - 10)
	case impl.TreeText:
		return textNode([]string{"", "a", "7", "end"}[g.Intn(4)])
	case impl.TreeFlag:
		return flagNode(g.Intn(2))
	case impl.TreeList:
		return kindNode(impl.LiftEmpty, impl.KindWrite(k.Kids[0]))
	case impl.TreeMaybe:
		return kindNode(impl.LiftNone, impl.KindWrite(k.Kids[0]))
	}
	n := impl.LiftNode{Op: impl.LiftForm, Names: k.Names}
	for _, kid := range k.Kids {
		n.Kids = append(n.Kids, g.plain(kid, names))
	}
	return n
}

// chosen is by an op that may be of any schema.
func (g *valueGrower) chosen(k impl.Kind, names []impl.LiftVar, levels int) impl.LiftNode {
	x, other := g.bindName(), g.aKind(2)
	switch g.Intn(8) {
	case 0:
		return node(impl.LiftIf, "", g.of(flagKind(), names, levels), g.of(k, names, levels), g.of(k, names, levels))
	case 1:
		return node(impl.LiftLet, x, g.of(other, names, levels), g.of(k, with(names, x, other), levels))
	case 2:
		return node(impl.LiftGet, "n", node(impl.LiftPut, "n", g.of(g.aForm(2), names, levels-1), g.of(k, names, levels-1)))
	case 3:
		return node(impl.LiftAt, "", node(impl.LiftOne, "", g.of(k, names, levels-1)), g.of(numKind(), names, levels))
	case 4:
		return node(impl.LiftElse, "", g.of(maybeKind(k), names, levels), g.of(k, names, levels))
	case 5:
		return node(impl.LiftCase, x, g.of(maybeKind(other), names, levels), g.of(k, with(names, x, other), levels), g.of(k, names, levels))
	case 6:
		inner := with(with(names, "a", k), x, other)
		return node(impl.LiftFold, "a "+x, g.of(listKind(other), names, levels), g.of(k, names, levels), g.of(k, inner, levels))
	}
	return node(impl.LiftGet, "a", g.of(formKind("a", k), names, levels))
}

// reckoned is by an op that makes such a schema.
func (g *valueGrower) reckoned(k impl.Kind, names []impl.LiftVar, levels int) impl.LiftNode {
	x, other := g.bindName(), g.aKind(2)
	switch k.Sort {
	case impl.TreeNum:
		if g.Intn(3) == 0 {
			return node(impl.LiftSize, "", g.of([]impl.Kind{textKind(), listKind(other)}[g.Intn(2)], names, levels))
		}
		return node(impl.LiftAdd+g.Intn(5), "", g.of(k, names, levels), g.of(k, names, levels))
	case impl.TreeText:
		if g.Intn(3) == 0 {
			return node(impl.LiftShow, "", g.of(numKind(), names, levels))
		}
		return g.joinedOrCut(k, names, levels)
	case impl.TreeFlag:
		return g.decided(names, levels)
	case impl.TreeList:
		switch g.Intn(4) {
		case 0:
			return node(impl.LiftOne, "", g.of(k.Kids[0], names, levels))
		case 1:
			return node(impl.LiftMap, x, g.of(listKind(other), names, levels), g.of(k.Kids[0], with(names, x, other), levels))
		case 2:
			return node(impl.LiftKeep, x, g.of(k, names, levels), g.of(flagKind(), with(names, x, k.Kids[0]), levels))
		}
		return g.joinedOrCut(k, names, levels)
	case impl.TreeMaybe:
		if k.Kids[0].Sort == impl.TreeNum && g.Intn(2) == 0 {
			return node(impl.LiftRead, "", g.of(textKind(), names, levels))
		}
		return node(impl.LiftSome, "", g.of(k.Kids[0], names, levels))
	}
	return g.formed(k, names, levels)
}

func (g *valueGrower) joinedOrCut(k impl.Kind, names []impl.LiftVar, levels int) impl.LiftNode {
	if g.Intn(2) == 0 {
		return node(impl.LiftJoin, "", g.of(k, names, levels), g.of(k, names, levels))
	}
	return node(impl.LiftPart, "", g.of(k, names, levels), g.of(numKind(), names, levels), g.of(numKind(), names, levels))
}

func (g *valueGrower) decided(names []impl.LiftVar, levels int) impl.LiftNode {
	k := g.aKind(2)
	switch op := impl.LiftLess + g.Intn(5); op {
	case impl.LiftLess:
		k = []impl.Kind{numKind(), textKind()}[g.Intn(2)]
		return node(op, "", g.of(k, names, levels), g.of(k, names, levels))
	case impl.LiftSame:
		return node(op, "", g.of(k, names, levels), g.of(k, names, levels))
	case impl.LiftNot:
		return node(op, "", g.of(flagKind(), names, levels))
	default:
		return node(op, "", g.of(flagKind(), names, levels), g.of(flagKind(), names, levels))
	}
}

func (g *valueGrower) formed(k impl.Kind, names []impl.LiftVar, levels int) impl.LiftNode {
	if len(k.Names) > 0 && g.Intn(2) == 0 {
		at := g.Intn(len(k.Names))
		less := formKind("")
		less.Names, less.Kids = slices.Delete(slices.Clone(k.Names), at, at+1), slices.Delete(slices.Clone(k.Kids), at, at+1)
		return node(impl.LiftPut, k.Names[at], g.of([]impl.Kind{k, less}[g.Intn(2)], names, levels), g.of(k.Kids[at], names, levels))
	}
	if !slices.Contains(k.Names, "b") && g.Intn(3) == 0 {
		return node(impl.LiftCut, "b", node(impl.LiftPut, "b", g.of(k, names, levels-1), g.of(g.aKind(2), names, levels-1)))
	}
	n := impl.LiftNode{Op: impl.LiftForm, Names: k.Names}
	for _, kid := range k.Kids {
		n.Kids = append(n.Kids, g.of(kid, names, levels))
	}
	return n
}

// action goes to some of the sinks.
func (g *valueGrower) action(names []impl.LiftVar, sinks []impl.LiftSink, levels int) impl.LiftNode {
	g.left--
	op := impl.LiftDrop + g.Intn(8)
	if g.left <= 0 || levels <= 1 {
		op = impl.LiftDrop + g.Intn(2)
	}
	x, k := g.bindName(), g.aKind(3)
	switch op {
	case impl.LiftFail:
		return failNode(g.Intn(100))
	case impl.LiftEmit, impl.LiftSend:
		return g.event(names, sinks, levels)
	case impl.LiftBoth:
		return node(op, "", g.action(names, sinks, levels-1), g.action(names, sinks, levels-1))
	case impl.LiftChoose:
		return node(op, "", g.of(flagKind(), names, levels-1), g.action(names, sinks, levels-1), g.action(names, sinks, levels-1))
	case impl.LiftTake:
		return node(op, x, g.of(k, names, levels-1), g.action(with(names, x, k), sinks, levels-1))
	case impl.LiftEach:
		return node(op, x, g.of(listKind(k), names, levels-1), g.action(with(names, x, k), sinks, levels-1))
	}
	return dropNode()
}

func (g *valueGrower) event(names []impl.LiftVar, sinks []impl.LiftSink, levels int) impl.LiftNode {
	if len(sinks) == 0 {
		return emitNode(g.of(formKind(""), names, levels-1))
	}
	sink := sinks[g.Intn(len(sinks))]
	n := emitNode(g.of(sink.Kind, names, levels-1))
	if sink.Name != "" {
		n = sendNode(sink.Name, sink.Version, n.Kids[0])
	}
	if g.slips > 0 && g.Intn(g.slips) == 0 {
		n = sendNode("t", 12, n.Kids[0])
	}
	return n
}

func (g grower) someVars() []impl.LiftVar {
	var out []impl.LiftVar
	for range g.Intn(6) {
		out = append(out, impl.LiftVar{Name: g.bindName(), Kind: g.aKind(3)})
	}
	return out
}

func (g grower) someSinks() []impl.LiftSink {
	var out []impl.LiftSink
	for range g.Intn(5) {
		sink := impl.LiftSink{Kind: g.aForm(3)}
		if g.Intn(2) == 0 {
			sink.Name, sink.Version = []string{"t", "u", "end"}[g.Intn(3)], 1+g.Intn(3)
		}
		out = append(out, sink)
	}
	return out
}

// isInNodeBounds is asked of what has just what its ops have.
func isInNodeBounds(n impl.LiftNode) bool {
	return nodesOf(n) <= 200 && nodeLevels(n) <= 24 && len(nodeWords(n)) <= 3000
}

// Many values, some with slips, held against the document's table; those without have the schema that was meant.
func TestCheckManyValues(t *testing.T) {
	faults := map[int]int{}
	for seed := range 6000 {
		g := &valueGrower{grower: grower{rand.New(rand.NewSource(int64(seed)))}}
		g.slips = []int{0, 10, 40, 200}[g.Intn(4)]
		g.left = 3 + g.Intn(150)
		vars, k := g.someVars(), g.aKind(4)
		n := g.of(k, vars, 3+g.Intn(22))
		if !isInNodeBounds(n) {
			mustKindBe(t, "beyond the bounds", vars, n, "2@0")
			continue
		}
		kind, fault := kindAsSaid(vars, n)
		got, gotFault := impl.LiftKind(vars, n)
		if gotFault != fault || impl.KindWrite(got) != kind || fault.Code != 0 && !isNoKind(got) {
			t.Errorf("%s: %s, %v, not %s, %v", nodeWords(n), impl.KindWrite(got), gotFault, kind, fault)
		}
		if g.slips == 0 && fault.Code == 0 && !sameKind(got, k) {
			t.Errorf("%s: %s, not %s", nodeWords(n), impl.KindWrite(got), impl.KindWrite(k))
		}
		if cost := impl.LiftCost(n); cost != costAsSaid(n) {
			t.Errorf("%s: cost %d, not %d", nodeWords(n), cost, costAsSaid(n))
		}
		faults[fault.Code]++
	}
	if faults[0] < 1000 || faults[5] < 200 || faults[6] < 200 || faults[7] < 100 || faults[8] < 100 {
		t.Errorf("too few: %v", faults)
	}
}

// Many upcasters, held against the document's table; that their texts are read as them (promise 12) changes nothing of what is wrong.
func TestCheckManyActions(t *testing.T) {
	faults := map[int]int{}
	for seed := range 6000 {
		g := &valueGrower{grower: grower{rand.New(rand.NewSource(int64(seed)))}}
		g.slips = []int{0, 40, 200}[g.Intn(3)]
		g.left = 3 + g.Intn(150)
		from, sinks := g.aForm(3), g.someSinks()
		n := g.action([]impl.LiftVar{{Name: "old", Kind: from}}, sinks, 3+g.Intn(22))
		if g.Intn(3) == 0 {
			list := valueOf("empty num")
			n = node(impl.LiftEach, "w", list, node(impl.LiftEach, "w", list, node(impl.LiftBoth, "", dropNode(), n)))
		}
		if !isInNodeBounds(n) {
			continue
		}
		fault := checkAsSaid(from, sinks, n)
		if got := impl.LiftCheck(from, sinks, n); got != fault {
			t.Errorf("%s: %v, not %v", nodeWords(n), got, fault)
		}
		read, none := impl.LiftParse(impl.LiftWrite(n))
		if got := impl.LiftCheck(from, sinks, read); none.Code != 0 || got != fault {
			t.Errorf("%s, read again: %v, not %v", nodeWords(n), got, fault)
		}
		if impl.LiftCost(n) != costAsSaid(n) || impl.LiftFan(n) != fanAsSaid(n) {
			t.Errorf("%s: cost %d, fan %d, not %d, %d", nodeWords(n), impl.LiftCost(n), impl.LiftFan(n), costAsSaid(n), fanAsSaid(n))
		}
		faults[fault.Code]++
	}
	if faults[0] < 1000 || faults[5] < 100 || faults[6] < 100 || faults[7] < 50 || faults[8] < 50 || faults[9] < 50 || faults[10] < 20 {
		t.Errorf("too few: %v", faults)
	}
}

// uses says whether a value uses a name that is bound around it; one that is bound again within it is another one.
func uses(n impl.LiftNode, name string) bool {
	if n.Op == impl.LiftName {
		return n.Names[0] == name
	}
	hidden := -1
	switch n.Op {
	case impl.LiftLet, impl.LiftCase, impl.LiftMap, impl.LiftKeep:
		hidden = 1
	case impl.LiftFold:
		hidden = 2
	}
	for i, kid := range n.Kids {
		if (i != hidden || !slices.Contains(n.Names, name)) && uses(kid, name) {
			return true
		}
	}
	return false
}

// mustStay is promise 19 of one value: a name more ahead of all others changes nothing.
func mustStay(t *testing.T, vars []impl.LiftVar, n impl.LiftNode, more impl.LiftVar) {
	t.Helper()
	k, fault := impl.LiftKind(vars, n)
	got, gotFault := impl.LiftKind(append([]impl.LiftVar{more}, vars...), n)
	if gotFault != fault || !sameKind(got, k) {
		t.Errorf("%s: with %s %s more %s, %v, not %s, %v", nodeWords(n), more.Name, impl.KindWrite(more.Kind), impl.KindWrite(got), gotFault, impl.KindWrite(k), fault)
	}
}

// Promise 19, of values that bind the same name within them, that use another one of it, and that do not have it at all; whether something is wrong with them or not.
func TestCheckNameMore(t *testing.T) {
	vars := varsOf("n num l [num] m ?num s text")
	for _, s := range []string{
		"1", "n", "add n 1", "let x 1 x", "let x n add x x", "let x let x n x x", "map x l add x n", "map x l map x one x x", "keep x l less x n", "case x m x n", "case x m let x x x n",
		"fold x y l 0 add x y", "fold y x l 0 add x y", "fold x a l n fold a x l x add a x", "form a let x 1 x b map x l x end", "add let x 1 x let x 2 x",
		"zzz", "add s n", "let x s add x 1", "get q form end", "some some some some some some let x 1 x", "let x 1 let y x add x s", "map x s x", "form x 1 end", "get x form x 1 end", "put x form end 1", "cut x form x n end",
	} {
		for _, k := range []impl.Kind{numKind(), textKind(), listKind(numKind()), formKind("a", numKind()), wideKind(39, numKind()), nestedKind(6)} {
			for _, name := range []string{"x", "y", "a", "q", "old", "abcdefg9", "add", "end"} {
				mustStay(t, vars, valueOf(s), impl.LiftVar{Name: name, Kind: k})
			}
			// These are bound again behind it, so that it does not count.
			for _, name := range []string{"n", "l", "m", "s"} {
				mustStay(t, vars, valueOf(s), impl.LiftVar{Name: name, Kind: k})
			}
		}
	}
	mustAnswer(t, nil, "x", "5@0")
	mustAnswer(t, varsOf("x num"), "x", "num")
}

// Promise 19, of many values.
func TestCheckNameMoreMany(t *testing.T) {
	unused, bound, again := 0, 0, 0
	for seed := range 3000 {
		g := &valueGrower{grower: grower{rand.New(rand.NewSource(int64(seed)))}, left: 60}
		g.slips = []int{0, 30}[g.Intn(2)]
		vars := g.someVars()
		n := g.of(g.aKind(3), vars, 3+g.Intn(10))
		for _, name := range []string{"x", "y", "z", "old", "n", "items", "a", "q"} {
			isVar := slices.ContainsFunc(vars, func(v impl.LiftVar) bool { return v.Name == name })
			if uses(n, name) && !isVar {
				continue
			}
			mustStay(t, vars, n, impl.LiftVar{Name: name, Kind: g.aKind(3)})
			words := strings.Fields(nodeWords(n))
			switch {
			case isVar:
				again++
			case slices.Contains(words, name):
				bound++
			default:
				unused++
			}
		}
	}
	if unused < 3000 || bound < 300 || again < 1000 {
		t.Errorf("too few: %d not there, %d bound within, %d bound again", unused, bound, again)
	}
}
