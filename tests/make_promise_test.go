package tests

import (
	"math/rand"
	"testing"

	"loop.example/tealang/impl"
)

// mustBeDerived is promise 15 of one upcaster and one body of its schema. It says with which code that stops.
func mustBeDerived(t *testing.T, from, to impl.Kind, n impl.LiftNode, old impl.Tree) int {
	t.Helper()
	if fault := impl.LiftCheck(from, emitsOf(to), n); fault.Code != 0 {
		t.Errorf("%s: %v", nodeWords(n), fault)
	}
	done := impl.LiftRun(n, old)
	said := "!4"
	if x, ok := impl.KindWiden(from, to, old); ok {
		said = impl.TreeWrite(x)
	}
	wider := widened(from, to, old)
	if (said == "!4") != (partsOf(wider) > impl.TreeMaxParts) || said != "!4" && said != impl.TreeWrite(wider) {
		t.Errorf("%s from %s is widened to %s", impl.TreeWrite(old), impl.KindWrite(from), said)
	}
	if got := doneText(done); got != said {
		t.Errorf("%s of %s: %s, not %s", nodeWords(n), impl.TreeWrite(old), got, said)
	}
	for _, out := range done.Outs {
		if out.Name != "" || out.Version != 0 || !impl.KindHas(to, out.Body) {
			t.Errorf("%s of %s: %v", nodeWords(n), impl.TreeWrite(old), out)
		}
	}
	return done.Code
}

// Promise 15, of each way from schema to schema, and of bodies with nothing, something, and many in them.
func TestMakeDerived(t *testing.T) {
	for _, c := range []struct{ from, to, body, made string }{
		{"{}", "{}", "{}", "{}"},
		{"{a:num}", "{a:num}", "{a:-5}", "{a:-5}"},
		{"{}", "{a:?num,b:??[text]}", "{}", "{a:~,b:~}"},
		{"{a:num}", "{a:?num,b:?{c:flag}}", "{a:7}", "{a:?7,b:~}"},
		{"{a:text}", "{a:???text}", `{a:"x y"}`, `{a:???"x y"}`},
		{"{a:?num}", "{a:??num}", "{a:~}", "{a:~}"},
		{"{a:?num}", "{a:??num}", "{a:?3}", "{a:??3}"},
		{"{a:??num}", "{a:???num}", "{a:~}", "{a:~}"},
		{"{a:??num}", "{a:???num}", "{a:?~}", "{a:?~}"},
		{"{a:??num}", "{a:???num}", "{a:??3}", "{a:???3}"},
		{"{a:[num]}", "{a:[?num]}", "{a:[]}", "{a:[]}"},
		{"{a:[num]}", "{a:[?num]}", "{a:[3,1,2]}", "{a:[?3,?1,?2]}"},
		{"{a:[[num]]}", "{a:[?[?num]]}", "{a:[[],[1],[2,3]]}", "{a:[?[],?[?1],?[?2,?3]]}"},
		{"{a:?[num]}", "{a:?[?num]}", "{a:~}", "{a:~}"},
		{"{a:?[num]}", "{a:?[?num]}", "{a:?[1,2]}", "{a:?[?1,?2]}"},
		{"{a:[?num]}", "{a:[??num]}", "{a:[~,?1,~]}", "{a:[~,??1,~]}"},
		{"{a:[{b:num,c:[num]}],d:[num]}", "{a:[{b:?num,c:[?num],z:?num}],d:[?num]}", "{a:[{b:1,c:[2,3]},{b:4,c:[]}],d:[5]}", "{a:[{b:?1,c:[?2,?3],z:~},{b:?4,c:[],z:~}],d:[?5]}"},
		{"{old:num,x0:[num],x1:[[num]]}", "{old:?num,x0:[?num],x1:[[?num]]}", "{old:1,x0:[2],x1:[[3],[4,5]]}", "{old:?1,x0:[?2],x1:[[?3],[?4,?5]]}"},
		{"{x0:[{x0:[num],x1:num}]}", "{x0:[{x0:[?num],x1:num}]}", "{x0:[{x0:[1,2],x1:3}]}", "{x0:[{x0:[?1,?2],x1:3}]}"},
		{"{a:{b:{c:num}},d:flag}", "{a:{b:{c:?num,e:?num}},d:?flag}", "{a:{b:{c:1}},d:yes}", "{a:{b:{c:?1,e:~}},d:?yes}"},
	} {
		from, to, old := kindOf(c.from), kindOf(c.to), treeOf(c.body)
		n, ok := impl.LiftMake(from, to)
		if !ok || !impl.KindHas(from, old) {
			t.Fatalf("%s to %s of %s: %v", c.from, c.to, c.body, ok)
		}
		mustBeDerived(t, from, to, n, old)
		if got := doing(n, old); got != c.made {
			t.Errorf("%s to %s of %s: %s, not %s", c.from, c.to, c.body, got, c.made)
		}
	}
}

// mustBeByAnyWay is promise 16 of three schemas and a body of the first. It says with which codes the first and the second upcaster stop; -1, if one is not made.
func mustBeByAnyWay(t *testing.T, one, two, three impl.Kind, old impl.Tree) (int, int) {
	t.Helper()
	first, firstOk := impl.LiftMake(one, two)
	second, secondOk := impl.LiftMake(two, three)
	last, lastOk := impl.LiftMake(one, three)
	if !firstOk || !secondOk || !lastOk {
		return -1, -1
	}
	there := impl.LiftRun(first, old)
	end, code := there, 0
	if there.Code == 0 {
		end = impl.LiftRun(second, there.Outs[0].Body)
		code = end.Code
	}
	if got, want := doing(last, old), doneText(end); got != want {
		t.Errorf("%s from %s by %s to %s: %s, not %s", impl.TreeWrite(old), impl.KindWrite(one), impl.KindWrite(two), impl.KindWrite(three), got, want)
	}
	return there.Code, code
}

// Promise 16, of bodies of which none of the upcasters stops, of which the first does, and of which only the second does.
func TestMakeByAnyWay(t *testing.T) {
	for _, c := range []struct {
		one, two, three string
		lists, sizes    int
		first, second   int
	}{
		{"{a:[[num]]}", "{a:[[num]]}", "{a:[[num]]}", 5, 20, 0, 0},
		{"{a:[[num]]}", "{a:[[?num]]}", "{a:[[??num]]}", 3, 10, 0, 0},
		{"{a:[[num]]}", "{a:?[[num]]}", "{a:?[[?num]]}", 3, 10, 0, 0},
		{"{a:[[num]]}", "{a:[[num]],b:?num}", "{a:[?[num]],b:?num,c:?num}", 3, 10, 0, 0},
		{"{a:[[num]]}", "{a:[[?num]]}", "{a:[[?num]]}", 6, 9, 0, 0},
		{"{a:[[num]]}", "{a:[[?num]]}", "{a:[[?num]],b:?num}", 6, 9, 0, 0},
		{"{a:[[num]]}", "{a:[[?num]]}", "{a:[[?num]]}", 6, 10, 4, 0},
		{"{a:[[num]]}", "{a:[[?num]]}", "{a:[[??num]]}", 6, 10, 4, 0},
		{"{a:[[num]]}", "{a:[[?num]]}", "{a:?[[?num]],b:?num}", 6, 10, 4, 0},
		{"{a:[[num]]}", "{a:[[num]]}", "{a:[[?num]]}", 6, 10, 0, 4},
		{"{a:[[num]]}", "{a:[[?num]]}", "{a:[[??num]]}", 6, 9, 0, 4},
		{"{a:[[num]]}", "{a:[?[num]],b:?num}", "{a:[?[?num]],b:?num}", 6, 10, 0, 4},
		{"{a:[[num]]}", "{a:[[num]],b:?num}", "{a:[[num]],b:?num,c:?num}", 6, 18, 0, 0},
		{"{a:[[num]]}", "{a:?[[num]]}", "{a:??[[num]]}", 7, 15, 0, 0},
	} {
		old := form("a", list(times(c.lists, list(times(c.sizes, num(1))...))...))
		first, second := mustBeByAnyWay(t, kindOf(c.one), kindOf(c.two), kindOf(c.three), old)
		if first != c.first || second != c.second {
			t.Errorf("%s by %s to %s: %d, %d", c.one, c.two, c.three, first, second)
		}
	}
}

// Promises 15 and 16, of all small schemas of forms.
func TestMakeSmallBodies(t *testing.T) {
	ways := 0
	all := smallKinds(4)
	into := map[int][]impl.Kind{}
	for i, from := range all {
		for _, to := range all {
			if from.Sort == impl.TreeForm && fitsInto(from, to) {
				into[i] = append(into[i], to)
			}
		}
		for _, old := range someTrees(from) {
			for _, to := range into[i] {
				n, ok := impl.LiftMake(from, to)
				if ok != (to.Sort == impl.TreeForm) {
					t.Fatalf("%s to %s: %v", impl.KindWrite(from), impl.KindWrite(to), ok)
				}
				if !ok {
					continue
				}
				mustBeDerived(t, from, to, n, old)
				for _, third := range into[i] {
					if !fitsInto(to, third) {
						continue
					}
					if code, _ := mustBeByAnyWay(t, from, to, third, old); code >= 0 {
						ways++
					}
				}
			}
		}
	}
	if ways < 2000 {
		t.Errorf("too few: %d", ways)
	}
}

// formAtTop is a form's schema, which may have too many levels or parts; one of two has lists of lists, as these have many parts.
func (g grower) formAtTop(levels int) impl.Kind {
	k := impl.Kind{Sort: impl.TreeForm, Names: g.names()}
	for range k.Names {
		k.Kids = append(k.Kids, g.kind(levels-1))
	}
	if len(k.Kids) > 0 && g.Intn(2) == 0 {
		k.Kids[0] = listKind(listKind(g.kind(2)))
	}
	return k
}

// largeTreeOf is the largest of some trees of the schema that are ok.
func (g grower) largeTreeOf(k impl.Kind) impl.Tree {
	large := g.okTreeOf(k)
	for range 8 {
		if x := g.okTreeOf(k); partsOf(x) > partsOf(large) {
			large = x
		}
	}
	return large
}

// Promises 15 and 16, and the text of what is made, of many schemas and bodies, on both sides of the bounds.
func TestMakeMany(t *testing.T) {
	g := grower{rand.New(rand.NewSource(6))}
	made, big, first, second := 0, 0, 0, 0
	for range 5000 {
		one := g.formAtTop(1 + g.Intn(5))
		two := g.widerForm(one)
		three := g.widerForm(two)
		if !impl.KindOk(three) {
			mustNotMake(t, "not ok", two, three)
			continue
		}
		mustMakeAsSaid(t, one, g.shortKind())
		mustMakeAsSaid(t, three, two)
		mustMakeAsSaid(t, two, three)
		n, ok := impl.LiftMake(one, three)
		if ok != mustMakeAsSaid(t, one, three) || !ok {
			continue
		}
		for _, old := range []impl.Tree{g.okTreeOf(one), g.largeTreeOf(one)} {
			made++
			if mustBeDerived(t, one, three, n, old) != 0 {
				big++
			}
			switch a, b := mustBeByAnyWay(t, one, two, three, old); {
			case a > 0:
				first++
			case b > 0:
				second++
			}
		}
	}
	if made < 5000 || big < 100 || first < 50 || second < 50 {
		t.Errorf("too few: %d made, %d too big, %d by the first, %d by the second", made, big, first, second)
	}
}
