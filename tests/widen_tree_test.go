package tests

import (
	"slices"
	"strings"
	"testing"
	"unsafe"

	"loop.example/tealang/impl"
)

// isWider is promise 6 of a tree that can be widened.
func isWider(to impl.Kind, x, wider impl.Tree) bool {
	return impl.KindHas(to, wider) && impl.TreeParts(wider) >= impl.TreeParts(x)
}

// Promise 6, of ordinary trees into each sort, and of maybes within maybes.
func TestWidenTree(t *testing.T) {
	for _, c := range []struct{ from, to, tree, want string }{
		{"num", "num", "-7", "-7"},
		{"text", "text", `"x"`, `"x"`},
		{"flag", "flag", "yes", "yes"},
		{"flag", "flag", "no", "no"},
		{"num", "?num", "0", "?0"},
		{"num", "??num", "5", "??5"},
		{"num", "???num", "5", "???5"},
		{"?num", "?num", "~", "~"},
		{"?num", "?num", "?5", "?5"},
		{"?num", "??num", "~", "~"},
		{"?num", "??num", "?5", "??5"},
		{"?num", "???num", "~", "~"},
		{"?num", "???num", "?5", "???5"},
		{"??num", "??num", "~", "~"},
		{"??num", "??num", "?~", "?~"},
		{"??num", "??num", "??5", "??5"},
		{"??num", "???num", "~", "~"},
		{"??num", "???num", "?~", "?~"},
		{"??num", "???num", "??5", "???5"},
		{"[num]", "[num]", "[]", "[]"},
		{"[num]", "[?num]", "[]", "[]"},
		{"[num]", "[?num]", "[3,1,2]", "[?3,?1,?2]"},
		{"[?num]", "[??num]", "[~,?1,~]", "[~,??1,~]"},
		{"[num]", "?[num]", "[]", "?[]"},
		{"[num]", "?[?num]", "[1,2]", "?[?1,?2]"},
		{"?[num]", "?[?num]", "~", "~"},
		{"?[num]", "??[?num]", "?[1]", "??[?1]"},
		{"[[flag]]", "[?[?flag]]", "[[],[yes,no]]", "[?[],?[?yes,?no]]"},
		{"{}", "{}", "{}", "{}"},
		{"{}", "?{}", "{}", "?{}"},
		{"{}", "{a:?num}", "{}", "{a:~}"},
		{"{}", "{a:??num}", "{}", "{a:~}"},
		{"{}", "{a:?{b:num}}", "{}", "{a:~}"},
		{"{}", "?{a:?num,b:?[text]}", "{}", "?{a:~,b:~}"},
		{"{b:num}", "{a:?text,b:num}", "{b:1}", "{a:~,b:1}"},
		{"{b:num}", "{a:?text,b:?num,c:?num}", "{b:1}", "{a:~,b:?1,c:~}"},
		{"{a:num,c:text}", "{a:num,b:?flag,c:?text}", `{a:1,c:"x"}`, `{a:1,b:~,c:?"x"}`},
		{"{a:num,c:num}", "{a:num,b:?num,c:num,d:?num}", "{a:1,c:2}", "{a:1,b:~,c:2,d:~}"},
		{"{a:?num}", "{a:??num}", "{a:~}", "{a:~}"},
		{"{a:{x:num}}", "{a:?{x:num,y:?num}}", "{a:{x:1}}", "{a:?{x:1,y:~}}"},
		{"{a:?{x:num}}", "{a:?{w:?num,x:?num}}", "{a:?{x:1}}", "{a:?{w:~,x:?1}}"},
		{"?{a:num}", "?{a:num,b:?num}", "~", "~"},
		{"[{a:num}]", "[{a:?num,z:?flag}]", "[{a:1},{a:2}]", "[{a:?1,z:~},{a:?2,z:~}]"},
	} {
		from, to, x := mustReadKind(t, c.from), mustReadKind(t, c.to), mustReadTree(t, c.tree)
		wider, ok := impl.KindWiden(from, to, x)
		if got := impl.TreeWrite(wider); !ok || got != c.want || !isWider(to, x, wider) {
			t.Errorf("%s from %s into %s: %s, %v, not %s", c.tree, c.from, c.to, got, ok, c.want)
		}
	}
}

// Wrong inputs: a schema that does not fit, a tree that is not of the first one.
func TestWidenNothing(t *testing.T) {
	for _, c := range []struct{ from, to, trees string }{
		{"num", "text", `1 ""`},
		{"?num", "num", "~ ?1 1"},
		{"??num", "?num", "~ ?~ ??1 ?1"},
		{"[?num]", "[num]", "[] [~] [?1] [1]"},
		{"[num]", "num", "[] [1] 1"},
		{"{a:num}", "{}", "{a:1} {}"},
		{"{a:?num}", "{}", "{a:~} {}"},
		{"{a:num}", "{b:?num}", "{a:1} {b:~}"},
		{"{a:num}", "{a:num,b:num}", "{a:1} {a:1,b:1}"},
		{"{a:num}", "{a:text,b:?num}", `{a:1} {a:"",b:~}`},
		{"{a:{b:num}}", "{a:{b:text}}", `{a:{b:1}} {a:{b:""}}`},
		{"[{a:num}]", "?[{a:[num]}]", "[] [{a:1}] ?[]"},
		{"num", "num", `"" yes [] [1] {} ~ ?1`},
		{"num", "?num", `"" yes ~ ?1 ?yes [1]`},
		{"num", "??num", "~ ?1 ?~ ??1 yes"},
		{"?num", "?num", `1 "" ?yes ?~ ??1 []`},
		{"?num", "??num", "1 ?~ ??1 ?yes"},
		{"[num]", "[?num]", `1 [~] [?1] ["1"] [1,yes] ?[1] {}`},
		{"[num]", "?[num]", "?[1] ~ 1 [yes]"},
		{"{a:num}", "{a:num,b:?num}", "{} {b:~} {a:1,b:~} {a:1,b:?1} {a:yes} {a:?1} [1] 1 ?{a:1}"},
		{"{a:num}", "{a:?num}", "{} {a:~} {a:?1}"},
		{"{}", "{a:?num}", "{a:~} {a:?1} ~ []"},
	} {
		from, to := mustReadKind(t, c.from), mustReadKind(t, c.to)
		for _, s := range strings.Fields(c.trees) {
			if wider, ok := impl.KindWiden(from, to, mustReadTree(t, s)); ok || !isNothing(wider) {
				t.Errorf("%s from %s into %s: %s", s, c.from, c.to, impl.TreeWrite(wider))
			}
		}
	}
}

// Wrong inputs: trees that are not ok, though each of them looks as its schema wants it.
func TestWidenWrongTrees(t *testing.T) {
	for what, c := range map[string]struct {
		kind string
		tree impl.Tree
	}{
		"number too great":      {"num", num(1000000000)},
		"number with a text":    {"num", impl.Tree{Sort: impl.TreeNum, Text: "1"}},
		"text too long":         {"text", text(strings.Repeat("x", 61))},
		"text with a newline":   {"text", text("\n")},
		"flag of 2":             {"flag", flag(2)},
		"list too long":         {"[num]", list(times(21, num(1))...)},
		"list with a wrong kid": {"[num]", list(num(1), num(1000000000))},
		"maybe of two":          {"?num", maybe(num(1), num(1))},
		"form with a text":      {"{a:num}", impl.Tree{Sort: impl.TreeForm, Text: "a", Names: []string{"a"}, Kids: []impl.Tree{num(1)}}},
		"form with a kid less":  {"{a:num,b:num}", form("a b", num(1))},
		"form with a kid more":  {"{a:num}", form("a", num(1), num(1))},
		"form out of order":     {"{a:num,b:num}", form("b a", num(1), num(1))},
		"too many parts":        {"[[num]]", list(times(20, list(times(6, num(1))...))...)},
		"too many levels":       {"?????num", maybe(maybe(maybe(maybe(maybe(maybe(num(1)))))))},
		"nothing":               {"num", impl.Tree{}},
	} {
		k := mustReadKind(t, c.kind)
		for _, to := range []impl.Kind{k, maybeKind(k)} {
			if wider, ok := impl.KindWiden(k, to, c.tree); ok || !isNothing(wider) {
				t.Errorf("%s: %v", what, wider)
			}
		}
	}
}

// What passes the limits: a tree that, widened, has just the most parts, and one with one more.
func TestWidenJustMet(t *testing.T) {
	numbers := func(sizes ...int) impl.Tree {
		x := list()
		for _, size := range sizes {
			x.Kids = append(x.Kids, list(times(size, num(1))...))
		}
		return x
	}
	forms := func(n int) impl.Tree { return list(times(n, form(""))...) }
	maybes := func(n int) impl.Kind { return listKind(wideKind(n, maybeKind(numKind()))) }
	for what, c := range map[string]struct {
		from, to impl.Kind
		tree     impl.Tree
		parts    int
	}{
		"numbers into maybes":             {listKind(listKind(numKind())), listKind(listKind(maybeKind(numKind()))), numbers(8, 8, 8, 8, 8, 8, 8), 120},
		"numbers into maybes, one more":   {listKind(listKind(numKind())), listKind(listKind(maybeKind(numKind()))), numbers(9, 9, 9, 10, 10, 10), 121},
		"numbers into two maybes":         {listKind(listKind(numKind())), listKind(listKind(maybeKind(maybeKind(numKind())))), numbers(20, 18, 0, 0, 0), 120},
		"all into a maybe":                {listKind(listKind(numKind())), maybeKind(listKind(listKind(numKind()))), numbers(20, 20, 20, 20, 20, 12), 120},
		"all into a maybe, one more":      {listKind(listKind(numKind())), maybeKind(listKind(listKind(numKind()))), numbers(20, 20, 20, 20, 20, 13), 121},
		"all into two maybes, one more":   {listKind(listKind(numKind())), maybeKind(maybeKind(listKind(listKind(numKind())))), numbers(20, 20, 20, 20, 20, 12), 121},
		"new names":                       {listKind(formKind("")), maybes(6), forms(17), 120},
		"new names, one more":             {listKind(formKind("")), maybes(5), forms(20), 121},
		"new names, many more":            {listKind(formKind("")), maybes(19), forms(20), 401},
		"no element that gets new names":  {listKind(formKind("")), maybes(19), forms(0), 1},
		"as it is, with the most parts":   {listKind(listKind(numKind())), listKind(listKind(numKind())), numbers(20, 20, 20, 20, 20, 13), 120},
		"maybes that are nothing":         {listKind(listKind(maybeKind(numKind()))), listKind(listKind(maybeKind(maybeKind(numKind())))), list(times(7, list(times(16, maybe())...))...), 120},
		"maybes that have one, and more":  {listKind(maybeKind(listKind(numKind()))), listKind(maybeKind(listKind(maybeKind(numKind())))), list(times(8, maybe(list(times(6, num(2))...)))...), 113},
		"maybes that have one, one more":  {listKind(maybeKind(listKind(numKind()))), listKind(maybeKind(listKind(maybeKind(numKind())))), list(times(10, maybe(list(times(5, num(2))...)))...), 121},
		"the most levels, of one":         {numKind(), mustReadKind(t, "?????num"), num(1), 6},
		"the most levels, of two":         {mustReadKind(t, "[num]"), mustReadKind(t, "?[???num]"), list(num(1)), 6},
		"the most levels, as it is":       {nestedKind(6), nestedKind(6), nested(6), 6},
		"the most levels, of the deepest": {mustReadKind(t, "{a:{b:[num]}}"), mustReadKind(t, "?{a:{b:[?num]}}"), form("a", form("b", list(num(1)))), 6},
	} {
		wider, ok := impl.KindWiden(c.from, c.to, c.tree)
		if !impl.KindFits(c.from, c.to) || !impl.KindHas(c.from, c.tree) {
			t.Errorf("%s: the case itself", what)
		}
		if c.parts > 120 {
			if ok || !isNothing(wider) {
				t.Errorf("%s: %s", what, impl.TreeWrite(wider))
			}
		} else if !ok || impl.TreeParts(wider) != c.parts || !isWider(c.to, c.tree, wider) {
			t.Errorf("%s: %v, %d parts", what, ok, impl.TreeParts(wider))
		}
	}
}

// One level more has no schema that is ok, so nothing is widened into it.
func TestWidenOneLevelMore(t *testing.T) {
	for from, tree := range map[string]string{"num": "1", "[num]": "[]", "?num": "~", "{}": "{}", "?????num": "?????1", "[[[[[num]]]]]": "[[[[[1]]]]]"} {
		k, x := mustReadKind(t, from), mustReadTree(t, tree)
		to := k
		for range 7 {
			to = maybeKind(to)
			wider, ok := impl.KindWiden(k, to, x)
			if ok != (kindLevels(to) <= 6) || ok && !isWider(to, x, wider) || !ok && !isNothing(wider) {
				t.Errorf("%s into %d levels: %s, %v", from, kindLevels(to), impl.TreeWrite(wider), ok)
			}
		}
	}
}

// Promise 6: into its own schema each tree stays as it is.
func TestWidenStays(t *testing.T) {
	for _, k := range smallKinds(5) {
		for _, x := range someTrees(k) {
			if wider, ok := impl.KindWiden(k, k, x); !ok || !sameTree(wider, x) {
				t.Fatalf("%s in %s: %v, %v", impl.TreeWrite(x), impl.KindWrite(k), wider, ok)
			}
		}
	}
}

// The widened tree is new memory: it shares no list with the tree or the schemas, and no two lists of it share one.
func TestWidenAnswerIsNew(t *testing.T) {
	shared := form("x y", num(1), list(num(2)))
	x := form("a b", shared, shared)
	from := mustReadKind(t, "{a:{x:num,y:[num]},b:{x:num,y:[num]}}")
	to := mustReadKind(t, "{a:{x:num,y:[num]},b:{x:num,y:[num]},c:?num}")
	to.Kids[1] = to.Kids[0]
	wider, _ := impl.KindWiden(from, to, x)
	wider.Names[0] = "a0"
	wider.Kids[0].Names[0] = "w"
	wider.Kids[0].Kids[0] = flag(1)
	wider.Kids[0].Kids[1].Kids[0] = flag(0)
	_ = append(wider.Kids[0].Names, "zz")
	_ = append(wider.Kids[0].Kids, num(9))
	_ = append(wider.Kids[0].Kids[1].Kids, num(9))
	_ = append(wider.Kids[2].Kids, num(9))
	if got, want := impl.TreeWrite(wider), "{a0:{w:yes,y:[no]},b:{x:1,y:[2]},c:~}"; got != want {
		t.Errorf("%s, not %s", got, want)
	}
	if got, want := impl.TreeWrite(x), "{a:{x:1,y:[2]},b:{x:1,y:[2]}}"; got != want {
		t.Errorf("the argument is now %s", got)
	}
	if got, want := impl.KindWrite(to), "{a:{x:num,y:[num]},b:{x:num,y:[num]},c:?num}"; got != want {
		t.Errorf("the schema is now %s", got)
	}
}

// The names and texts of the widened tree do not lie in those of the arguments.
func TestWidenSharesNoText(t *testing.T) {
	name, word := strings.Repeat("n", 3), strings.Repeat("w", 4)
	from := impl.Kind{Sort: impl.TreeForm, Names: []string{name}, Kids: []impl.Kind{textKind()}}
	x := impl.Tree{Sort: impl.TreeForm, Names: []string{name}, Kids: []impl.Tree{text(word)}}
	wider, _ := impl.KindWiden(from, from, x)
	if unsafe.StringData(wider.Names[0]) == unsafe.StringData(name) || unsafe.StringData(wider.Kids[0].Text) == unsafe.StringData(word) {
		t.Error("the widened tree shares a text with an argument")
	}
	join, _ := impl.KindJoin(from, from)
	if unsafe.StringData(join.Names[0]) == unsafe.StringData(name) {
		t.Error("the join shares a name with an argument")
	}
}

// Nothing is written into an argument, or behind its end.
func TestWidenArgumentsStay(t *testing.T) {
	names := strings.Fields("a c d e")
	kinds := []impl.Kind{numKind(), listKind(textKind()), flagKind(), textKind()}
	trees := []impl.Tree{num(1), list(text("x")), flag(1), text("y")}
	from := impl.Kind{Sort: impl.TreeForm, Names: names[:2], Kids: kinds[:2]}
	x := impl.Tree{Sort: impl.TreeForm, Names: names[:2], Kids: trees[:2]}
	to := mustReadKind(t, "{a:?num,b:?num,c:[?text]}")
	wider, ok := impl.KindWiden(from, to, x)
	if got, want := impl.TreeWrite(wider), `{a:?1,b:~,c:[?"x"]}`; !ok || got != want {
		t.Errorf("%s, not %s", got, want)
	}
	join, ok := impl.KindJoin(from, mustReadKind(t, "{b:num}"))
	if got, want := impl.KindWrite(join), "{a:?num,b:?num,c:?[text]}"; !ok || got != want {
		t.Errorf("%s, not %s", got, want)
	}
	if !impl.KindFits(from, to) || !slices.Equal(names, strings.Fields("a c d e")) {
		t.Errorf("%v", names)
	}
	if !slices.EqualFunc(kinds, []impl.Kind{numKind(), listKind(textKind()), flagKind(), textKind()}, sameKind) || !slices.EqualFunc(trees, []impl.Tree{num(1), list(text("x")), flag(1), text("y")}, sameTree) {
		t.Errorf("%v %v", kinds, trees)
	}
}
