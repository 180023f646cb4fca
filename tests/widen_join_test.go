package tests

import (
	"testing"

	"loop.example/tealang/impl"
)

// isJoin is promise 8 of two that have a join, but for its being the least.
func isJoin(t *testing.T, a, b, join impl.Kind) {
	t.Helper()
	if !impl.KindOk(join) || !impl.KindFits(a, join) || !impl.KindFits(b, join) {
		t.Errorf("%s and %s do not fit into %s", impl.KindWrite(a), impl.KindWrite(b), impl.KindWrite(join))
	}
}

// joinsTo asks for the join in both orders.
func joinsTo(t *testing.T, a, b impl.Kind) (impl.Kind, bool) {
	t.Helper()
	join, ok := impl.KindJoin(a, b)
	other, okToo := impl.KindJoin(b, a)
	if ok != okToo || !sameKind(join, other) {
		t.Errorf("%v and %v: %v, but %v in the other order", a, b, join, other)
	}
	if !ok && !isNoKind(join) {
		t.Errorf("%v and %v: %v beside false", a, b, join)
	}
	if ok {
		isJoin(t, a, b, join)
	}
	return join, ok
}

func TestJoin(t *testing.T) {
	for _, c := range []struct{ a, b, want string }{
		{"num", "num", "num"},
		{"text", "text", "text"},
		{"flag", "flag", "flag"},
		{"num", "?num", "?num"},
		{"?num", "?num", "?num"},
		{"num", "??num", "??num"},
		{"?num", "??num", "??num"},
		{"??num", "??num", "??num"},
		{"?num", "????num", "????num"},
		{"[num]", "[num]", "[num]"},
		{"[num]", "[?num]", "[?num]"},
		{"[num]", "?[num]", "?[num]"},
		{"[?num]", "?[num]", "?[?num]"},
		{"?[??num]", "??[?num]", "??[??num]"},
		{"[[num]]", "[?[num]]", "[?[num]]"},
		{"{}", "{}", "{}"},
		{"{}", "?{}", "?{}"},
		{"{}", "{a:num}", "{a:?num}"},
		{"{}", "{a:?num}", "{a:?num}"},
		{"{}", "{a:??num}", "{a:??num}"},
		{"{}", "{a:[num]}", "{a:?[num]}"},
		{"{}", "{a:{b:num}}", "{a:?{b:num}}"},
		{"{a:num}", "{a:num}", "{a:num}"},
		{"{a:num}", "{a:?num}", "{a:?num}"},
		{"{a:num}", "{b:text}", "{a:?num,b:?text}"},
		{"{b:num}", "{a:text}", "{a:?text,b:?num}"},
		{"{a:num,c:num}", "{b:num,c:num,d:num}", "{a:?num,b:?num,c:num,d:?num}"},
		{"{a:num,aa:num}", "{a0:num,b:num}", "{a:?num,a0:?num,aa:?num,b:?num}"},
		{"{a:?num,b:text}", "{b:?text,c:?flag}", "{a:?num,b:?text,c:?flag}"},
		{"{a:{x:num}}", "{a:{y:num}}", "{a:{x:?num,y:?num}}"},
		{"{a:{x:num}}", "{a:?{}}", "{a:?{x:?num}}"},
		{"[{a:num}]", "[{}]", "[{a:?num}]"},
		{"?{}", "{a:flag}", "?{a:?flag}"},
		{"?[{a:num}]", "[{b:num}]", "?[{a:?num,b:?num}]"},
	} {
		join, ok := joinsTo(t, mustReadKind(t, c.a), mustReadKind(t, c.b))
		if got := impl.KindWrite(join); !ok || got != c.want {
			t.Errorf("%s and %s: %s, not %s", c.a, c.b, got, c.want)
		}
	}
}

// Wrong inputs: unlike sorts, at the top and further below.
func TestJoinOfUnlike(t *testing.T) {
	unlike := []string{"num", "text", "flag", "[num]", "{}"}
	for i, one := range unlike {
		for j, other := range unlike {
			a, b := mustReadKind(t, one), mustReadKind(t, other)
			for _, in := range []func(impl.Kind) impl.Kind{
				func(k impl.Kind) impl.Kind { return k },
				maybeKind,
				listKind,
				func(k impl.Kind) impl.Kind { return maybeKind(maybeKind(k)) },
				func(k impl.Kind) impl.Kind { return formKind("a", k) },
				func(k impl.Kind) impl.Kind { return formKind("a b c", numKind(), textKind(), k) },
				func(k impl.Kind) impl.Kind { return formKind("a b", k, textKind()) },
				func(k impl.Kind) impl.Kind { return formKind("a", listKind(maybeKind(k))) },
			} {
				if _, ok := joinsTo(t, in(a), in(b)); ok != (i == j) {
					t.Errorf("%s and %s: %v", impl.KindWrite(in(a)), impl.KindWrite(in(b)), ok)
				}
			}
			if _, ok := joinsTo(t, a, maybeKind(b)); ok != (i == j) {
				t.Errorf("%s and ?%s: %v", one, other, ok)
			}
			if _, ok := joinsTo(t, formKind("a", maybeKind(maybeKind(a))), formKind("a", b)); ok != (i == j) {
				t.Errorf("??%s and %s, in a form: %v", one, other, ok)
			}
		}
	}
}

// numbered is a form of the names from the one place up to the one ahead of the other, each with this kid.
func numbered(from, to int, kid impl.Kind) impl.Kind {
	all := wideKind(to, kid)
	return impl.Kind{Sort: impl.TreeForm, Names: all.Names[from:], Kids: all.Kids[from:]}
}

// What passes the limits: a join with just the most parts or levels, and one with one more.
func TestJoinJustMet(t *testing.T) {
	n, m := numKind(), maybeKind(numKind())
	for what, c := range map[string]struct {
		a, b          impl.Kind
		parts, levels int
	}{
		"all names of both":                {numbered(0, 39, n), numbered(0, 39, n), 40, 2},
		"all but one unlike":               {numbered(0, 11, n), numbered(10, 20, n), 40, 3},
		"all unlike":                       {numbered(0, 10, n), numbered(10, 20, n), 41, 3},
		"one unlike, the rest of both":     {numbered(0, 39, n), numbered(0, 38, n), 41, 3},
		"one unlike, one name less":        {numbered(0, 38, n), numbered(0, 37, n), 40, 3},
		"one a maybe already":              {numbered(0, 19, m), numbered(0, 19, n), 39, 3},
		"maybes, and one name more":        {numbered(0, 19, m), numbered(0, 20, n), 41, 3},
		"far beyond":                       {numbered(0, 39, n), numbered(39, 78, n), 157, 3},
		"the whole a maybe":                {numbered(0, 38, n), maybeKind(numbered(0, 38, n)), 40, 3},
		"the whole a maybe, and one more":  {numbered(0, 39, n), maybeKind(numbered(0, 38, n)), 42, 4},
		"maybe of one, and the other more": {maybeKind(numbered(0, 37, n)), numbered(0, 38, n), 41, 4},
		"maybe around, maybe within":       {mustReadKind(t, "?[[[num]]]"), mustReadKind(t, "[[[?num]]]"), 6, 6},
		"around and within, one more":      {mustReadKind(t, "?[[[[num]]]]"), mustReadKind(t, "[[[[?num]]]]"), 7, 7},
		"around each":                      {mustReadKind(t, "?[[?[num]]]"), mustReadKind(t, "[?[[?num]]]"), 8, 8},
		"a new name":                       {formKind(""), mustReadKind(t, "{a:[[[num]]]}"), 6, 6},
		"a new name, one more":             {formKind(""), mustReadKind(t, "{a:[[[[num]]]]}"), 7, 7},
		"a new name that is a maybe":       {formKind(""), mustReadKind(t, "{a:?[[[num]]]}"), 6, 6},
		"a new name, deep":                 {mustReadKind(t, "[[[{}]]]"), mustReadKind(t, "[[[{a:num}]]]"), 6, 6},
		"a new name, too deep":             {mustReadKind(t, "[[[[{}]]]]"), mustReadKind(t, "[[[[{a:num}]]]]"), 7, 7},
	} {
		want, _ := joined(c.a, c.b)
		if kindParts(want) != c.parts || kindLevels(want) != c.levels || !impl.KindOk(c.a) || !impl.KindOk(c.b) {
			t.Errorf("%s: the case itself, %d parts, %d levels", what, kindParts(want), kindLevels(want))
		}
		join, ok := joinsTo(t, c.a, c.b)
		if ok != (c.parts <= 40 && c.levels <= 6) || ok && !sameKind(join, want) {
			t.Errorf("%s: %v, %v", what, ok, join)
		}
	}
}

// Promise 8, of all small schemas: just those have a join that the document says, and it is the least.
func TestJoinSmall(t *testing.T) {
	all := smallKinds(4)
	into := make([][]int, len(all))
	for i, from := range all {
		for j, to := range all {
			if impl.KindFits(from, to) {
				into[i] = append(into[i], j)
			}
		}
	}
	for i, a := range all {
		for j, b := range all[:i+1] {
			join, ok := joinsTo(t, a, b)
			if want, has := joined(a, b); ok != (has && kindLevels(want) <= 6) || ok && !sameKind(join, want) {
				t.Fatalf("%s and %s: %s, %v", impl.KindWrite(a), impl.KindWrite(b), impl.KindWrite(join), ok)
			}
			for _, above := range both(into[i], into[j]) {
				if !ok || !impl.KindFits(join, all[above]) {
					t.Fatalf("%s and %s fit into %s, their join is %s", impl.KindWrite(a), impl.KindWrite(b), impl.KindWrite(all[above]), impl.KindWrite(join))
				}
			}
		}
	}
}

// both are the places that are in both lists, which ascend.
func both(a, b []int) []int {
	var out []int
	for _, place := range a {
		for len(b) > 0 && b[0] < place {
			b = b[1:]
		}
		if len(b) > 0 && b[0] == place {
			out = append(out, place)
		}
	}
	return out
}

// The join is new memory: it shares no list with the two, and no two lists of it share one.
func TestJoinAnswerIsNew(t *testing.T) {
	shared := formKind("x y", numKind(), listKind(textKind()))
	a := formKind("a b c", shared, shared, numKind())
	b := formKind("b c d", shared, numKind(), maybeKind(shared))
	join, _ := impl.KindJoin(a, b)
	join.Names[0] = "a0"
	within := join.Kids[0].Kids[0]
	within.Names[0] = "w"
	within.Kids[1].Kids[0] = flagKind()
	_ = append(within.Names, "zz")
	_ = append(within.Kids, flagKind())
	_ = append(within.Kids[1].Kids, flagKind())
	_ = append(join.Kids[0].Kids, flagKind())
	if got, want := impl.KindWrite(join), "{a0:?{w:num,y:[flag]},b:{x:num,y:[text]},c:num,d:?{x:num,y:[text]}}"; got != want {
		t.Errorf("%s, not %s", got, want)
	}
	if got, want := impl.KindWrite(a), "{a:{x:num,y:[text]},b:{x:num,y:[text]},c:num}"; got != want {
		t.Errorf("the argument is now %s", got)
	}
}
