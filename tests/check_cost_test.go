package tests

import (
	"strings"
	"testing"

	"loop.example/tealang/impl"
)

// The costs of values and of actions, those kids that are done for each element counting 20 times, all others once.
func TestCheckCost(t *testing.T) {
	for s, cost := range map[string]int{
		"1": 1, `"a"`: 1, "yes": 1, "x": 1, "none num": 1, "empty [num]": 1, "form end": 1,
		"some 1": 2, "add 1 2": 3, "if yes 1 2": 4, "let x 1 x": 3, "get a old": 2, "put a old 1": 3, "cut a old": 2, "form a 1 b 2 end": 3,
		"part l 0 add 1 2": 6, "else m 1": 3, "case x m x 1": 4, "case x add 1 2 add 1 2 add 1 2": 10, "let x add 1 2 add x x": 7,
		"map x l x": 22, "map x l add x 1": 62, "map x one 1 x": 23, "map x map y l y x": 1 + 22 + 20,
		"map x l map y l y": 2 + 20*22, "map x l map y l map z l z": 2 + 20*(2+20*22),
		"keep x l yes": 22, "keep x l not yes": 42, "keep x one 1 yes": 23, "keep x l same x size map y l y": 2 + 20*(1+1+1+22),
		"fold a x l 0 a": 23, "fold a x l 0 add a x": 63, "fold a x one 1 0 a": 24, "fold a x l add 1 2 a": 25, "fold a x l fold b y l 0 b a": 1 + 1 + 23 + 20,
		"fold a x l 0 fold b y l 0 b": 3 + 20*23, "fold a x map y l y size keep z l yes a": 1 + 22 + 23 + 20,
		"fold a x l 0 size keep y l same x map z l z": 3 + 20*(1+2+20*(1+1+22)),
	} {
		if got := impl.LiftCost(valueOf(s)); got != cost {
			t.Errorf("%s: %d, not %d", s, got, cost)
		}
		if got := impl.LiftCost(actionOf("emit " + s)); got != cost+1 {
			t.Errorf("emit %s: %d, not %d", s, got, cost+1)
		}
		if got := impl.LiftCost(actionOf("each x " + s + " emit " + s)); got != min(1+cost+20*(cost+1), 40001) {
			t.Errorf("each of %s: %d", s, got)
		}
	}
	for s, cost := range map[string]int{
		"drop": 1, "fail 7": 1, "emit 1": 2, "send a 1 1": 2, "both drop drop": 3, "choose yes drop drop": 4, "take x 1 drop": 3,
		"each x l drop": 22, "each x l both drop drop": 62, "each x map y l y drop": 1 + 22 + 20, "take x map y l y drop": 1 + 22 + 1,
		"both each x l drop each x l drop": 45, "choose yes each x l drop each x l drop": 46, "each x l each y l each z l drop": 2 + 20*(2+20*22),
		"each x l take y x each z l drop": 2 + 20*(1+1+22), "each x l emit map y l y": 2 + 20*(1+22),
	} {
		if got := impl.LiftCost(actionOf(s)); got != cost {
			t.Errorf("%s: %d, not %d", s, got, cost)
		}
	}
}

// costNode is a number with just this cost.
func costNode(cost int) impl.LiftNode {
	switch {
	case cost == 1:
		return numNode(1)
	case cost == 2:
		return node(impl.LiftSize, "", textNode(""))
	case cost <= 30:
		return node(impl.LiftAdd, "", costNode((cost-1)/2), costNode(cost/2))
	}
	inner := (cost - 5) / 20
	many := node(impl.LiftSize, "", node(impl.LiftMap, "x", nameNode("l"), costNode(inner)))
	return node(impl.LiftAdd, "", many, costNode(cost-4-20*inner))
}

// A cost of just LiftMaxCost, one less and one more.
func TestCheckCostBounds(t *testing.T) {
	for cost := 39900; cost <= 40100; cost++ {
		n := costNode(cost)
		if wholeCost(n) != float64(cost) {
			t.Fatalf("%v, not %d", wholeCost(n), cost)
		}
		if got := impl.LiftCost(n); got != min(cost, 40001) {
			t.Errorf("%d, not %d", got, cost)
		}
		if got := impl.LiftCost(emitNode(n)); got != min(cost+1, 40001) {
			t.Errorf("%d, not %d", got, cost+1)
		}
		fault := told(impl.LiftCheck(kindOf("{l:[num]}"), nil, node(impl.LiftTake, "l", valueOf("empty num"), node(impl.LiftTake, "x", n, dropNode()))))
		if want := map[bool]string{true: "0@0", false: "9@0"}[cost+4 <= 40000]; fault != want {
			t.Errorf("cost %d: %s, not %s", cost+4, fault, want)
		}
	}
	if impl.LiftMaxCost != 40000 || impl.LiftMaxFan != 400 {
		t.Errorf("%d, %d", impl.LiftMaxCost, impl.LiftMaxFan)
	}
}

// A `map` within a `keep` within a `fold` within an `each`: as each of them counts 20 times; and as the kids that count once.
func TestCheckCostOfAllFour(t *testing.T) {
	for s, cost := range map[string]int{
		"each x l emit fold a y l 0 size keep z l same l map u l u":                                     40001,
		"each x l emit fold a y l 0 size keep z map u l u yes":                                          2 + 20*(1+3+20*(1+1+22+20)),
		"each x l emit fold a y keep z l same l map u l u 0 a":                                          2 + 20*(1+1+(2+20*24)+1+20),
		"each x l emit fold a y l size keep z l same l map u l u a":                                     2 + 20*(1+1+1+(1+2+20*24)+20),
		"each x keep z map u l u yes emit fold a y l 0 a":                                               1 + 43 + 20*24,
		"each x fold a y keep z map u l u yes l a emit 1":                                               1 + (1 + 43 + 1 + 20) + 20*2,
		"both each x l emit fold a y l 0 size keep z map u l u yes each x l emit fold a y l 0 a":        1 + (2 + 20*(4+20*44)) + (2 + 20*24),
		"both each x l emit fold a y l 0 size keep z l yes each x l emit fold a y l 0 size keep z l no": 1 + 2*(2+20*(4+20*23)),
	} {
		if got := impl.LiftCost(actionOf(s)); got != cost {
			t.Errorf("%s: %d, not %d", s, got, cost)
		}
	}
}

// A cost and a fan far beyond what an int can hold is cut all the same.
func TestCheckCostWithoutEnd(t *testing.T) {
	for levels := 1; levels <= 22; levels++ {
		s := strings.Repeat("each x l ", levels)
		for what, kid := range map[string]int{"drop": 1, "emit 1": 2, "both drop drop": 3} {
			cost, fan := kid, map[string]int{"emit 1": 1}[what]
			for range levels {
				cost, fan = min(2+20*cost, 40001), min(20*fan, 401)
			}
			n := actionOf(s + what)
			if impl.LiftCost(n) != cost || impl.LiftFan(n) != fan {
				t.Errorf("%s%s: %d, %d, not %d, %d", s, what, impl.LiftCost(n), impl.LiftFan(n), cost, fan)
			}
		}
		for _, op := range []string{"map x l ", "keep x l ", "fold a x l 0 "} {
			n := valueOf(strings.Repeat(op, levels) + "yes")
			if impl.LiftCost(n) != costAsSaid(n) || levels >= 4 && impl.LiftCost(n) != 40001 {
				t.Errorf("%d times %s: %d", levels, op, impl.LiftCost(n))
			}
		}
	}
	wide := formNode(10, valueOf("map x l map x l map x l map x l x"))
	if got := impl.LiftCost(wide); got != 40001 {
		t.Errorf("a form of many: %d", got)
	}
}

// The fans of actions.
func TestCheckFan(t *testing.T) {
	for s, fan := range map[string]int{
		"drop": 0, "fail 7": 0, "emit 1": 1, "send a 1 1": 1, "emit map x l x": 1,
		"both emit 1 drop": 1, "both drop emit 1": 1, "both emit 1 send a 1 1": 2, "both drop fail 1": 0, "both both emit 1 emit 1 both emit 1 emit 1": 4,
		"choose yes emit 1 drop": 1, "choose yes drop emit 1": 1, "choose yes emit 1 emit 1": 1, "choose yes both emit 1 emit 1 emit 1": 2, "choose yes emit 1 both emit 1 emit 1": 2, "choose yes drop drop": 0,
		"take x 1 emit 1": 1, "take x 1 drop": 0, "take x 1 both emit 1 emit 1": 2, "take x 1 each y l emit 1": 20,
		"each x l emit 1": 20, "each x l drop": 0, "each x l both emit 1 emit 1": 40, "each x l choose yes emit 1 both emit 1 emit 1": 40, "both each x l emit 1 emit 1": 21,
		"each x l each y l emit 1": 400, "each x l each y l drop": 0, "each x l both emit 1 each y l emit 1": 401, "each x l each y l both emit 1 emit 1": 401, "each x l each y l each z l emit 1": 401,
		"both each x l each y l emit 1 drop": 400, "both each x l each y l emit 1 emit 1": 401, "both emit 1 each x l each y l emit 1": 401,
		"both each x l each y l emit 1 each x l each y l emit 1": 401, "choose yes each x l each y l emit 1 each x l each y l emit 1": 400,
		"choose yes each x l each y l each z l emit 1 drop": 401, "choose yes drop each x l each y l each z l emit 1": 401, "take x 1 each x l each y l each z l emit 1": 401,
	} {
		n := actionOf(s)
		if got := impl.LiftFan(n); got != fan || got != fanAsSaid(n) {
			t.Errorf("%s: %d, not %d", s, got, fan)
		}
	}
}

// manyEmits makes so many events.
func manyEmits(fan int) impl.LiftNode {
	if fan == 1 {
		return emitNode(node(impl.LiftForm, ""))
	}
	return node(impl.LiftBoth, "", manyEmits(fan/2), manyEmits(fan-fan/2))
}

// A fan of just LiftMaxFan, one less and one more.
func TestCheckFanBounds(t *testing.T) {
	from, sinks := kindOf("{l:[num]}"), sinksOf("{}")
	for fan := 381; fan <= 420; fan++ {
		n := node(impl.LiftBoth, "", node(impl.LiftEach, "x", valueOf("get l old"), manyEmits(19)), manyEmits(fan-380))
		if impl.LiftFan(n) != min(fan, 401) || wholeFan(n) != float64(fan) {
			t.Errorf("fan %d, not %d", impl.LiftFan(n), fan)
		}
		fault := told(impl.LiftCheck(from, sinks, n))
		if want := map[bool]string{true: "0@0", false: "10@0"}[fan <= 400]; fault != want {
			t.Errorf("fan %d: %s, not %s", fan, fault, want)
		}
	}
}

// What is not ok has no cost and no fan; a value has no fan.
func TestCheckCostOfWhatIsNotOk(t *testing.T) {
	look := func(what string, n impl.LiftNode) {
		if impl.LiftCost(n) != 0 || impl.LiftFan(n) != 0 {
			t.Errorf("%s: cost %d, fan %d", what, impl.LiftCost(n), impl.LiftFan(n))
		}
	}
	look("nothing", impl.LiftNode{})
	for what, n := range wrongValues() {
		look(what, n)
		look(what+", in emit", emitNode(n))
		look(what+", deep", node(impl.LiftBoth, "", emitNode(numNode(1)), node(impl.LiftEach, "x", nameNode("l"), emitNode(node(impl.LiftMap, "x", nameNode("l"), n)))))
	}
	for _, op := range []int{-1, 0, 44, 1 << 20} {
		look("no op", impl.LiftNode{Op: op})
	}
	look("an action in a value", node(impl.LiftSome, "", dropNode()))
	look("a value in an action", node(impl.LiftBoth, "", emitNode(numNode(1)), numNode(1)))
	look("201 nodes", formNode(200, numNode(1)))
	look("25 levels", notNode(25))
	look("25 levels of actions", bothNode(25))
	look("3001 bytes", longNode(3001))
	self := node(impl.LiftBoth, "", emitNode(numNode(1)), dropNode())
	self.Kids[1] = self
	look("a kid of itself", self)
	huge := emitNode(numNode(1))
	for range 60 {
		huge = node(impl.LiftBoth, "", huge, huge)
	}
	look("two kids on many levels", huge)
	for what, n := range map[string]impl.LiftNode{"200 nodes": formNode(199, numNode(1)), "24 levels": notNode(24), "3000 bytes": longNode(3000)} {
		if impl.LiftCost(n) != nodesOf(n) {
			t.Errorf("%s: cost %d, not %d", what, impl.LiftCost(n), nodesOf(n))
		}
	}
	for _, c := range ordinaryNodes() {
		if c.node.Op == impl.LiftEmit && impl.LiftFan(c.node.Kids[0]) != 0 {
			t.Errorf("%s: a value with a fan", c.what)
		}
	}
}
