package tests

import (
	"strings"
	"testing"

	"loop.example/tealang/impl"
)

// costlyKinds are two schemas, of which the upcaster costs 39994 and what these fields from e on cost.
func costlyKinds(fromRest, toRest string) (impl.Kind, impl.Kind) {
	from := "{a:[[[num]]],b:[[[num]]],c:[[{a:num,b:num,c:num,d:num,e:num,f:num}]],d:[{a:num,b:num,c:num,d:num,e:num}]" + fromRest + "}"
	to := "{a:[[[?num]]],b:[[[?num]]],c:[[{a:?num,b:?num,c:num,d:num,e:num,f:num}]],d:[{a:?num,b:?num,c:num,d:num,e:num}]" + toRest + "}"
	return kindOf(from), kindOf(to)
}

// A cost of just LiftMaxCost is made, one more is not. Of each field that stays the cost is 2, of `some` 3, of `none` 1.
func TestMakeCostBounds(t *testing.T) {
	for _, c := range []struct {
		from, to string
		cost     int
	}{
		{"", "", 39994},
		{",e:num", ",e:num", 39996},
		{",e:num", ",e:num,f:?num", 39997},
		{",e:num,f:num", ",e:num,f:num", 39998},
		{",e:num,f:num", ",e:num,f:num,g:?num", 39999},
		{",e:num,f:num,g:num", ",e:num,f:num,g:num", 40000},
		{",e:num,f:num", ",e:?num,f:?num", 40000},
		{"", ",e:?num,f:?num,g:?num", 39997},
		{",e:num,f:num,g:num", ",e:num,f:num,g:?num", 40001},
		{",e:num,f:num", ",e:?num,f:?num,g:?num", 40001},
		{",e:num,f:num,g:num", ",e:num,f:num,g:num,h:?num", 40001},
		{",e:num,f:num,g:num,h:num", ",e:num,f:num,g:num,h:num", 40002},
		{",e:[num]", ",e:[?num]", 40037},
	} {
		from, to := costlyKinds(c.from, c.to)
		n := actionOf("emit " + takenWords("old", from, to, 0))
		if wholeCost(n) != float64(c.cost) {
			t.Fatalf("%s: %v, not %d", c.to, wholeCost(n), c.cost)
		}
		if made := mustMakeAsSaid(t, from, to); made != (c.cost <= 40000) {
			t.Errorf("%s, cost %d: made %v", c.to, c.cost, made)
		}
		if made, ok := impl.LiftMake(from, to); ok {
			mustBeDerived(t, from, to, made, impl.KindFirst(from))
			mustBeDerived(t, from, to, made, treeOfSize(from, 1, 1))
			mustBeDerived(t, from, to, made, treeOfSize(from, 2, 1))
		}
	}
	for count := 1; count <= 4; count++ {
		from, to := wideKind(count, kindOf("[[[num]]]")), wideKind(count, kindOf("[[[?num]]]"))
		if made := mustMakeAsSaid(t, from, to); made != (2+16843*count <= 40000) {
			t.Errorf("%d lists of lists of lists: made %v", count, made)
		}
	}
}

// Nodes, bytes and levels of what is derived stay below the bounds, as a schema has 40 parts and 6 levels at most: these have the most of
// them, and are made; and the fan is always 1.
func TestMakeTheLargest(t *testing.T) {
	inForms := func(names []string, k impl.Kind) impl.Kind {
		for _, name := range names {
			k = formKind(name, k)
		}
		return k
	}
	last := func(k impl.Kind) impl.Kind {
		out := wideKind(35, textKind())
		out.Kids[34] = k
		return out
	}
	names := []string{"abcdefgh", "hgfedcba", "zzzzzzzz"}
	from, to := inForms(names, last(textKind())), inForms(names, last(maybeKind(textKind())))
	if kindParts(to) != 40 || kindLevels(to) != 6 {
		t.Fatalf("%d parts, %d levels", kindParts(to), kindLevels(to))
	}
	n, ok := impl.LiftMake(from, to)
	gets := " get hgfedcba get zzzzzzzz old"
	words := "emit form zzzzzzzz form hgfedcba form abcdefgh form"
	for i, name := range wide(35, num(0)).Names {
		words += " " + name + strings.Repeat(" some", i/34) + " get " + name + " get abcdefgh" + gets
	}
	words += " end end end end"
	if got := nodeWords(n); !ok || got != words {
		t.Errorf("%v: %s, not %s", ok, got, words)
	}
	if nodesOf(n) != 181 || nodeLevels(n) != 11 || len(words) != 2347 || impl.LiftFan(n) != 1 {
		t.Errorf("%d nodes, %d levels, %d bytes, fan %d", nodesOf(n), nodeLevels(n), len(words), impl.LiftFan(n))
	}
	mustBeDerived(t, from, to, n, impl.KindFirst(from))
	mustBeDerived(t, from, to, n, treeOfSize(from, 1, 1))
}

// A body of which just TreeMaxParts parts come is widened; of one part more StopBig comes, wherever that part is.
func TestMakeBodiesJustMet(t *testing.T) {
	for _, c := range []struct {
		from, to string
		body     func(size int) impl.Tree
		most     int
	}{
		{"{a:[num],b:[num],c:[num]}", "{a:[???num],b:[???num],c:[num]}", func(size int) impl.Tree {
			return form("a b c", list(times(13, num(1))...), list(times(13, num(2))...), list(times(size, num(3))...))
		}, 12},
		{"{a:[[num]],b:[num]}", "{a:[[?num]],b:[num]}", func(size int) impl.Tree {
			return form("a b", list(times(5, list(times(10, num(1))...))...), list(times(size, num(7))...))
		}, 12},
		{"{a:[{b:num,c:?text}],d:[num]}", "{a:[{b:num,c:?text,e:?num}],d:[num]}", func(size int) impl.Tree {
			return form("a d", list(times(20, form("b c", num(1), maybe(text("x"))))...), list(times(size, num(1))...))
		}, 17},
		{"{a:[?num],b:?[num],c:num}", "{a:[???num],b:??[?num],c:num}", func(size int) impl.Tree {
			return form("a b c", list(times(20, maybe(num(1)))...), maybe(list(times(size, num(1))...)), num(0))
		}, 17},
		{"{a:{b:{c:[num]}},d:[num]}", "{a:{b:{c:[?num],x:?num}},d:[???num]}", func(size int) impl.Tree {
			return form("a d", form("b", form("c", list(times(size, num(1))...))), list(times(20, num(1))...))
		}, 17},
	} {
		from, to := kindOf(c.from), kindOf(c.to)
		n, ok := impl.LiftMake(from, to)
		if !ok {
			t.Fatalf("%s to %s", c.from, c.to)
		}
		for size := range 21 {
			old := c.body(size)
			if !impl.TreeOk(old) {
				continue
			}
			want := 0
			if size > c.most {
				want = impl.StopBig
			}
			if code := mustBeDerived(t, from, to, n, old); code != want {
				t.Errorf("%s to %s, %d: code %d, %d parts", c.from, c.to, size, code, partsOf(widened(from, to, old)))
			}
		}
	}
}
