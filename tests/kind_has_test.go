package tests

import (
	"strings"
	"testing"

	"loop.example/tealang/impl"
)

func mustReadKind(t *testing.T, s string) impl.Kind {
	t.Helper()
	k, ok := impl.KindRead(s)
	if !ok {
		t.Fatalf("%q is not read as a schema", s)
	}
	return k
}

func mustReadTree(t *testing.T, s string) impl.Tree {
	t.Helper()
	x, ok := impl.TreeRead(s)
	if !ok {
		t.Fatalf("%q is not read as a tree", s)
	}
	return x
}

// staysOf is promise 5 of a schema and a tree that are both ok: written and read they are what they were to each other.
func staysOf(t *testing.T, k impl.Kind, x impl.Tree) bool {
	t.Helper()
	has := impl.KindHas(k, x)
	kind, tree := mustReadKind(t, impl.KindWrite(k)), mustReadTree(t, impl.TreeWrite(x))
	if impl.KindHas(kind, tree) != has || impl.KindHas(k, tree) != has || impl.KindHas(kind, x) != has {
		t.Errorf("%s is of %s: %v, but not so when written and read", impl.TreeWrite(x), impl.KindWrite(k), has)
	}
	return has
}

// Promise 5, its first half.
func TestKindHas(t *testing.T) {
	ones := "[1" + strings.Repeat(",1", 19) + "]"
	for _, c := range []struct{ kind, trees, others string }{
		{"num", "0 5 -5 999999999", `"5" "" yes no [] [5] {} {a:5} ~ ?5`},
		{"text", `"" "5" "text" "yes"`, `5 yes [] ["5"] {} {a:"5"} ~ ?"5"`},
		{"flag", "yes no", `1 0 "yes" [] [yes] {} {a:yes} ~ ?yes`},
		{"[num]", "[] [1] [1,2,-3] " + ones, `1 [yes] [1,"2"] ["1",2] [1,?2] [~] [[1]] {} ~ ?[1] ?1 {a:1}`},
		{"[[num]]", "[] [[]] [[1],[],[2,3]]", "[1] [[1],2] [[yes]] [[[]]] [~]"},
		{"[?num]", "[] [~] [~,?1,?2]", `[1] [~,1] [?yes] [?~] ~ ?[~]`},
		{"[{a:num}]", "[] [{a:1}] [{a:1},{a:2}]", `[{}] [{a:1},{}] [{a:yes}] [{b:1}] [{a:1,b:1}] {a:1}`},
		{"?num", "~ ?0 ?-7", `1 ?yes ?~ ??1 [] [1] ?[] ?{} "" {}`},
		{"??num", "~ ?~ ??1", "1 ?1 ???1 ??~ ??yes"},
		{"?[text]", `~ ?[] ?["x"]`, `[] ["x"] ?[1] ?~ ?"x"`},
		{"?{a:num}", "~ ?{a:1}", "{a:1} ?{} ?{a:yes} ?{b:1} ?1"},
		{"{}", "{}", `{a:1} [] ~ 0 "" no ?{}`},
		{"{a:num}", "{a:1}", `{} {b:1} {a:yes} {a:?1} {a:1,b:1} {a:1,aa:1} {aa:1} [1] ?{a:1} 1`},
		{"{a:num,b:text}", `{a:1,b:""}`, `{a:1} {b:""} {a:"",b:1} {a:1,b:1} {a:"",b:""} {a:1,c:""} {a:1,b:"",c:1} {} [1,""] {b:"",c:1}`},
		{"{a:?num,b:{c:[text]}}", `{a:~,b:{c:[]}} {a:?1,b:{c:["x"]}}`, `{b:{c:[]}} {a:1,b:{c:[]}} {a:~,b:{c:[1]}} {a:~,b:{}} {a:~,b:{c:["x",1]}} {a:?yes,b:{c:[]}}`},
	} {
		k := mustReadKind(t, c.kind)
		for _, s := range strings.Fields(c.trees) {
			if !staysOf(t, k, mustReadTree(t, s)) {
				t.Errorf("%s is not of %s", s, c.kind)
			}
		}
		for _, s := range strings.Fields(c.others) {
			if staysOf(t, k, mustReadTree(t, s)) {
				t.Errorf("%s is of %s", s, c.kind)
			}
		}
	}
}

// A tree that is not ok is of no schema, though each of its kids is as the schema wants it.
func TestKindHasNoWrongTree(t *testing.T) {
	anyA := []string{"a"}
	for what, c := range map[string]struct {
		kind string
		tree impl.Tree
	}{
		"number too great":       {"num", num(1000000000)},
		"number with a text":     {"num", impl.Tree{Sort: impl.TreeNum, Text: "1"}},
		"number with names":      {"num", impl.Tree{Sort: impl.TreeNum, Names: anyA}},
		"number with kids":       {"num", impl.Tree{Sort: impl.TreeNum, Kids: []impl.Tree{num(1)}}},
		"text too long":          {"text", text(strings.Repeat("x", 61))},
		"text with a quote":      {"text", text(`"`)},
		"flag of 2":              {"flag", flag(2)},
		"list too long":          {"[num]", list(times(21, num(1))...)},
		"list with a wrong kid":  {"[num]", list(num(1), num(-1000000000))},
		"list with names":        {"[num]", impl.Tree{Sort: impl.TreeList, Names: anyA, Kids: []impl.Tree{num(1)}}},
		"maybe of two":           {"?num", maybe(num(1), num(2))},
		"form with a number":     {"{a:num}", impl.Tree{Sort: impl.TreeForm, Num: 1, Names: anyA, Kids: []impl.Tree{num(1)}}},
		"form with a name twice": {"{a:num}", form("a a", num(1), num(1))},
		"form out of order":      {"{a:num,b:num}", form("b a", num(1), num(1))},
		"form with a kid less":   {"{a:num,b:num}", form("a b", num(1))},
		"form with a name less":  {"{a:num}", form("a", num(1), num(1))},
		"too many parts":         {"[[num]]", list(times(20, list(times(6, num(1))...))...)},
		"nothing":                {"{}", impl.Tree{}},
	} {
		if impl.KindHas(mustReadKind(t, c.kind), c.tree) {
			t.Errorf("%s", what)
		}
	}
}

// A schema that is not ok has no tree, though the tree is as the schema says.
func TestKindHasInNoWrongKind(t *testing.T) {
	tooMany := wide(40, num(1))
	for what, c := range map[string]struct {
		kind impl.Kind
		tree impl.Tree
	}{
		"number with names":   {impl.Kind{Sort: impl.TreeNum, Names: []string{"a"}}, num(1)},
		"number with a kid":   {impl.Kind{Sort: impl.TreeNum, Kids: []impl.Kind{numKind()}}, num(1)},
		"list without a kid":  {impl.Kind{Sort: impl.TreeList}, list()},
		"list of two":         {impl.Kind{Sort: impl.TreeList, Kids: []impl.Kind{numKind(), numKind()}}, list(num(1), num(1))},
		"list with a name":    {impl.Kind{Sort: impl.TreeList, Names: []string{"a"}, Kids: []impl.Kind{numKind()}}, list(num(1))},
		"maybe without a kid": {impl.Kind{Sort: impl.TreeMaybe}, maybe()},
		"maybe with a name":   {impl.Kind{Sort: impl.TreeMaybe, Names: []string{"a"}, Kids: []impl.Kind{numKind()}}, maybe(num(1))},
		"form out of order":   {formKind("b a", numKind(), numKind()), form("a b", num(1), num(1))},
		"form of a name more": {formKind("a b", numKind()), form("a", num(1))},
		"one part more":       {wideKind(40, numKind()), tooMany},
		"one level more":      {nestedKind(7), maybe()},
		"a list too deep":     {listKind(nestedKind(6)), list()},
		"nothing":             {impl.Kind{}, impl.Tree{}},
	} {
		if impl.KindHas(c.kind, c.tree) {
			t.Errorf("%s", what)
		}
	}
	if !impl.KindHas(wideKind(39, numKind()), wide(39, num(1))) {
		t.Error("the most parts")
	}
	if !impl.KindHas(listKind(nestedKind(5)), list()) {
		t.Error("the most levels")
	}
	if !impl.KindHas(wideKind(3, listKind(numKind())), wide(3, list(times(20, num(1))...))) {
		t.Error("a tree with more parts than a schema may have")
	}
}
