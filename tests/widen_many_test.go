package tests

import (
	"math/rand"
	"testing"

	"loop.example/tealang/impl"
)

// byAnyWay is promise 7 of a tree of the first of three schemas, each of which fits into the next. It says whether the tree can be widened.
func byAnyWay(t *testing.T, one, two, three impl.Kind, x impl.Tree) bool {
	t.Helper()
	there, ok := impl.KindWiden(one, two, x)
	if ok {
		there, ok = impl.KindWiden(two, three, there)
	}
	atOnce, okToo := impl.KindWiden(one, three, x)
	if ok != okToo || !sameTree(there, atOnce) {
		t.Errorf("%s from %s by %s to %s: %s, %v, at once %s, %v", impl.TreeWrite(x), impl.KindWrite(one), impl.KindWrite(two), impl.KindWrite(three), impl.TreeWrite(there), ok, impl.TreeWrite(atOnce), okToo)
	}
	return ok
}

// Promises 6 and 7, of all small schemas.
func TestWidenSmall(t *testing.T) {
	all := smallKinds(4)
	into := make([][]impl.Kind, len(all))
	for i, from := range all {
		for _, to := range all {
			if fitsInto(from, to) {
				into[i] = append(into[i], to)
			}
		}
	}
	for i, from := range all {
		for _, x := range someTrees(from) {
			for _, to := range into[i] {
				wider, ok := impl.KindWiden(from, to, x)
				if !ok || !sameTree(wider, widened(from, to, x)) || !isWider(to, x, wider) {
					t.Fatalf("%s from %s into %s: %s, %v", impl.TreeWrite(x), impl.KindWrite(from), impl.KindWrite(to), impl.TreeWrite(wider), ok)
				}
				for _, third := range into[i] {
					if fitsInto(to, third) {
						byAnyWay(t, from, to, third, x)
					}
				}
			}
		}
	}
}

// A tree that cannot be widened to the second, or not from there to the third, cannot be at once; nor the other way round.
func TestWidenByAnyWayJustMet(t *testing.T) {
	for _, c := range []struct {
		one, two, three string
		sizes           int
		want            bool
	}{
		{"[[num]]", "[[num]]", "[[?num]]", 8, true},
		{"[[num]]", "[[?num]]", "[[?num]]", 8, true},
		{"[[num]]", "[[?num]]", "?[[?num]]", 8, false},
		{"[[num]]", "?[[num]]", "?[[?num]]", 8, false},
		{"[[num]]", "[[?num]]", "[[??num]]", 8, false},
		{"[[num]]", "[[??num]]", "[[???num]]", 8, false},
		{"[[num]]", "[[?num]]", "?[[??num]]", 5, true},
		{"[[num]]", "[[num]]", "[[num]]", 16, true},
		{"[[num]]", "?[[num]]", "??[[num]]", 16, false},
	} {
		x := list(times(7, list(times(c.sizes, num(1))...))...)
		if c.sizes == 5 {
			x.Kids = x.Kids[:6]
		}
		if got := byAnyWay(t, mustReadKind(t, c.one), mustReadKind(t, c.two), mustReadKind(t, c.three), x); got != c.want {
			t.Errorf("%s by %s to %s: %v", c.one, c.two, c.three, got)
		}
	}
}

// Promises 5 (its second half), 6 and 7, of many schemas and trees, on both sides of the bounds.
func TestWidenMany(t *testing.T) {
	g := grower{rand.New(rand.NewSource(4))}
	can, cannot := 0, 0
	for range 60000 {
		one := g.kind(1 + g.Intn(5))
		two := g.wider(one)
		three := g.wider(two)
		if !impl.KindOk(three) {
			mustNotWiden(t, "not ok", two, three, firstOf(two))
			continue
		}
		if !impl.KindFits(one, one) || !impl.KindFits(one, two) || !impl.KindFits(two, three) || !impl.KindFits(one, three) {
			t.Fatalf("%s, %s, %s do not fit", impl.KindWrite(one), impl.KindWrite(two), impl.KindWrite(three))
		}
		x := g.treeOf(one)
		if !impl.TreeOk(x) {
			continue
		}
		if same, ok := impl.KindWiden(one, one, x); !ok || !sameTree(same, x) {
			t.Fatalf("%s in its own schema: %v", impl.TreeWrite(x), same)
		}
		want := widened(one, three, x)
		wider, ok := impl.KindWiden(one, three, x)
		if ok != (partsOf(want) <= 120) || ok && (!sameTree(wider, want) || !isWider(three, x, wider)) || !ok && !isNothing(wider) {
			t.Fatalf("%s from %s into %s: %s, %v", impl.TreeWrite(x), impl.KindWrite(one), impl.KindWrite(three), impl.TreeWrite(wider), ok)
		}
		if byAnyWay(t, one, two, three, x) {
			can++
		} else {
			cannot++
		}
	}
	if can < 1000 || cannot < 20 {
		t.Errorf("too few: %d that can be widened, %d that cannot", can, cannot)
	}
}

// Promise 8, of many schemas that fit into one, and of many others.
func TestJoinMany(t *testing.T) {
	g := grower{rand.New(rand.NewSource(5))}
	least, none, beyond := 0, 0, 0
	for range 40000 {
		above := g.kind(1 + g.Intn(6))
		if !impl.KindOk(above) {
			continue
		}
		a, b := g.narrower(above), g.narrower(above)
		join, ok := joinsTo(t, a, b)
		if !ok || !impl.KindFits(join, above) {
			t.Fatalf("%s and %s fit into %s, their join is %s", impl.KindWrite(a), impl.KindWrite(b), impl.KindWrite(above), impl.KindWrite(join))
		}
		least++
		c, d := g.wider(a), g.wider(b)
		if g.Intn(2) == 0 {
			d = g.kind(1 + g.Intn(6))
		}
		if !impl.KindOk(c) || !impl.KindOk(d) {
			continue
		}
		want, has := joined(c, d)
		join, ok = joinsTo(t, c, d)
		if ok != (has && impl.KindOk(want)) || ok && !sameKind(join, want) {
			t.Fatalf("%s and %s: %s, %v", impl.KindWrite(c), impl.KindWrite(d), impl.KindWrite(join), ok)
		}
		if !has {
			none++
		} else if !ok {
			beyond++
		}
	}
	if least < 1000 || none < 100 || beyond < 100 {
		t.Errorf("too few: %d least, %d with none, %d beyond the bounds", least, none, beyond)
	}
}
