package tests

import (
	"slices"
	"strings"
	"testing"

	"loop.example/tealang/impl"
)

// wrongKinds are each wrong in one thing alone.
func wrongKinds() map[string]impl.Kind {
	a, one := []string{"a"}, []impl.Kind{numKind()}
	two := []impl.Kind{numKind(), numKind()}
	return map[string]impl.Kind{
		"nothing":                         {},
		"sort below 1":                    {Sort: -1},
		"sort beyond 6":                   {Sort: 7},
		"sort 0 with a kid":               {Kids: one},
		"sort beyond 6 with a name":       {Sort: 7, Names: a, Kids: one},
		"number with names":               {Sort: impl.TreeNum, Names: a},
		"number with a kid":               {Sort: impl.TreeNum, Kids: one},
		"number with a name and kid":      {Sort: impl.TreeNum, Names: a, Kids: one},
		"text with names":                 {Sort: impl.TreeText, Names: a},
		"text with a kid":                 {Sort: impl.TreeText, Kids: one},
		"flag with names":                 {Sort: impl.TreeFlag, Names: a},
		"flag with a kid":                 {Sort: impl.TreeFlag, Kids: one},
		"list without a kid":              {Sort: impl.TreeList},
		"list of two":                     {Sort: impl.TreeList, Kids: two},
		"list with a name":                {Sort: impl.TreeList, Names: a, Kids: one},
		"list with an empty name":         {Sort: impl.TreeList, Names: []string{""}, Kids: one},
		"maybe without a kid":             {Sort: impl.TreeMaybe},
		"maybe of two":                    {Sort: impl.TreeMaybe, Kids: two},
		"maybe with a name":               {Sort: impl.TreeMaybe, Names: a, Kids: one},
		"form with too few kids":          formKind("a b", numKind()),
		"form with too many kids":         formKind("a", numKind(), numKind()),
		"form with names alone":           formKind("a"),
		"form with kids alone":            formKind("", numKind()),
		"form with names not ascending":   formKind("b a", two...),
		"form with one name twice":        formKind("a a", two...),
		"form with a longer name ahead":   formKind("aa a", two...),
		"form with a digit behind letter": formKind("aa a0", two...),
		"form with an empty name":         {Sort: impl.TreeForm, Names: []string{""}, Kids: one},
		"form with a name too long":       formKind("abcdefghi", numKind()),
		"form with a digit ahead":         formKind("9a", numKind()),
		"form with a great letter":        formKind("aB", numKind()),
		"form with a line in a name":      formKind("a_b", numKind()),
		"form with a blank in a name":     {Sort: impl.TreeForm, Names: []string{"a b"}, Kids: one},
		"form with a rune in a name":      formKind("é", numKind()),
		"form with a wrong last name":     formKind("a b C", numKind(), numKind(), numKind()),
		"one level more":                  nestedKind(7),
		"one level more, by lists":        listKind(listKind(listKind(listKind(listKind(listKind(numKind())))))),
		"one level more, by maybes":       maybeKind(maybeKind(maybeKind(maybeKind(maybeKind(maybeKind(numKind())))))),
		"one level more, of an empty":     formKind("a", formKind("a", formKind("a", formKind("a", formKind("a", formKind("a", formKind(""))))))),
		"one part more, by names":         wideKind(40, numKind()),
		"one part more, by lists":         formKind("a b", wideKind(18, listKind(numKind())), listKind(listKind(numKind()))),
	}
}

func mustBeNoKind(t *testing.T, what string, k impl.Kind) {
	t.Helper()
	if impl.KindOk(k) || impl.KindWrite(k) != "" || !isNothing(impl.KindFirst(k)) {
		t.Errorf("%s: ok %v, text %q, first %v", what, impl.KindOk(k), impl.KindWrite(k), impl.KindFirst(k))
	}
	for _, c := range append(ordinaryTrees(), edgeTrees()...) {
		if impl.KindHas(k, c.tree) {
			t.Errorf("%s: has %s", what, c.text)
		}
	}
	if impl.KindHas(k, impl.Tree{}) || impl.KindHas(k, impl.Tree{Sort: k.Sort, Names: k.Names}) {
		t.Errorf("%s: has a tree that is not ok", what)
	}
}

// Promise 3, the part on schemas that are not ok: they and all that hold them have no text.
func TestKindNotOk(t *testing.T) {
	for what, k := range wrongKinds() {
		mustBeNoKind(t, what, k)
		mustBeNoKind(t, what+", in a list", listKind(k))
		mustBeNoKind(t, what+", in a form", formKind("a b", numKind(), k))
		mustBeNoKind(t, what+", in a form, first", formKind("a b", k, numKind()))
		mustBeNoKind(t, what+", in a maybe", maybeKind(k))
		mustBeNoKind(t, what+", deep", formKind("a", listKind(maybeKind(k))))
	}
}

// What is just met is ok, and one more is not.
func TestKindJustMet(t *testing.T) {
	for levels := 1; levels <= 9; levels++ {
		if got := impl.KindOk(nestedKind(levels)); got != (levels <= 6) {
			t.Errorf("%d levels: %v", levels, got)
		}
	}
	for names := 30; names <= 130; names++ {
		if got := impl.KindOk(wideKind(names, textKind())); got != (names+1 <= 40) {
			t.Errorf("%d names: %v", names, got)
		}
	}
	for names := 1; names <= 30; names++ {
		if got := impl.KindOk(wideKind(names, listKind(maybeKind(numKind())))); got != (3*names+1 <= 40) {
			t.Errorf("%d names of three parts: %v", names, got)
		}
	}
	for size := 1; size <= 12; size++ {
		if got := impl.KindOk(formKind(strings.Repeat("n", size), numKind())); got != (size <= 8) {
			t.Errorf("a name of %d bytes: %v", size, got)
		}
	}
}

// A schema that is a kid of itself, or that has its kids many times over, is told of at once.
func TestKindWithoutEnd(t *testing.T) {
	self := listKind(numKind())
	self.Kids[0] = self
	mustBeNoKind(t, "a kid of itself", self)
	huge := numKind()
	for range 30 {
		huge = wideKind(30, huge)
	}
	mustBeNoKind(t, "30 kids on 30 levels", huge)
	flat := wideKind(39, numKind())
	flat.Kids = slices.Repeat([]impl.Kind{flat}, 39)
	mustBeNoKind(t, "39 kids of 39 kids", flat)
}

func wrongKindTexts() []string {
	wideText := impl.KindWrite(wideKind(39, numKind()))
	return []string{
		"", " ", "\n", "\x00", "\xff", "a", "1", "~", ",", ":", "old",
		"n", "nu", "nums", "numnum", "Num", "NUM", "int", "number", "nu m", "num?", "?num?",
		"t", "tex", "texts", "texttext", "Text", "string",
		"f", "fla", "flags", "flagflag", "Flag", "bool", "yes", "no",
		"[", "]", "[]", "[num", "num]", "[num,", "[num,]", "[,num]", "[num,num]", "[num,text]", "[ num]", "[num ]", "[num}", "[[num]", "[num]]", "[?]", "[a:num]", "[1]",
		"?", "??", "? num", "?~", "~num", "?1", "num?", "?num,", "?[", "?]",
		"{", "}", "{a}", "{a:}", "{:num}", "{a:num", "{a:num,", "{a:num,}", "{,a:num}", "{,}", "{a:num,,b:num}", "{a :num}", "{a: num}", "{ a:num}", "{a:num }", "{a:num, b:num}", "{a:num ,b:num}", "{a:num;b:num}", "{a:num]", "{a=num}", "{a num}", "{a,b:num}", "{a::num}", "{num}", "{}}", "{{}}", "{ }", "{a:nums}", "{a:1}", "{a:~}",
		"{b:num,a:num}", "{a:num,a:num}", "{a:num,a:text}", "{aa:num,a:num}", "{a:num,c:num,b:num}", "{a1:num,a0:num}", "{A:num}", "{aB:num}", "{9a:num}", "{0:num}", "{a_:num}", "{é:num}", "{abcdefghi:num}", `{"a":num}`,
		"[[[[[[num]]]]]]", "[[[[[[[num]]]]]]]", "??????num", "{a:{a:{a:{a:{a:{a:num}}}}}}", "{a:{a:{a:{a:{a:{a:{}}}}}}}",
		strings.Replace(wideText, "num", "[num]", 1), strings.Replace(wideText, "}", ",b:num}", 1), wideText + wideText,
	}
}

func mustNotBeKind(t *testing.T, s string) {
	t.Helper()
	if k, ok := impl.KindRead(s); ok || !isNoKind(k) {
		t.Errorf("%.80q (%d bytes) is read as %v, %v", s, len(s), k, ok)
	}
}

// Promise 3: no second text of a schema is read, and none of what is no schema.
func TestKindWrongTexts(t *testing.T) {
	for _, s := range wrongKindTexts() {
		mustNotBeKind(t, s)
	}
	for _, c := range allKinds() {
		for _, behind := range []string{" ", "\n", "\x00", ",", "]", "}", "?", ":", "x", "0", "num", c.text} {
			mustNotBeKind(t, c.text+behind)
		}
		for _, ahead := range []string{" ", "\n", "\x00", ",", "]", "}", "~", "0", "num"} {
			mustNotBeKind(t, ahead+c.text)
		}
	}
}

// A text that is cut off at either end is none, but for the `?`s ahead.
func TestKindCutOff(t *testing.T) {
	for _, c := range allKinds() {
		for cut := range len(c.text) {
			mustNotBeKind(t, c.text[:cut])
			if cut > 0 && strings.Trim(c.text[:cut], "?") != "" {
				mustNotBeKind(t, c.text[cut:])
			}
		}
	}
}

func TestKindTextTooLong(t *testing.T) {
	for _, size := range []int{799, 800, 801, 1000, 10000, 1000000} {
		mustNotBeKind(t, strings.Repeat("[", size))
		mustNotBeKind(t, strings.Repeat("?", size-3)+"num")
		mustNotBeKind(t, "{"+strings.Repeat("a", size-6)+":num}")
		mustNotBeKind(t, "num"+strings.Repeat(" ", size-3))
		mustNotBeKind(t, strings.Repeat(" ", size-4)+"text")
		mustNotBeKind(t, "{"+strings.Repeat("a:num,", size/6)+"b:num}")
	}
}
