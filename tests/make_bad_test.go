package tests

import (
	"testing"

	"loop.example/tealang/impl"
)

func mustNotMake(t *testing.T, what string, from, to impl.Kind) {
	t.Helper()
	if n, ok := impl.LiftMake(from, to); ok || !isNoNode(n) {
		t.Errorf("%s: %v, %s", what, ok, nodeWords(n))
	}
}

// Schemas of which one or both are no forms, whether one fits into the other or not.
func TestMakeOfNoForms(t *testing.T) {
	all := []string{"num", "text", "flag", "[num]", "[{}]", "[{a:num}]", "?num", "?{}", "?{a:num}", "??{}", "?{a:?num}"}
	for _, a := range all {
		for _, b := range all {
			mustNotMake(t, a+" to "+b, kindOf(a), kindOf(b))
		}
		for _, b := range []string{"{}", "{a:num}", "{a:?num}", "{a:?num,b:?num}"} {
			mustNotMake(t, a+" to "+b, kindOf(a), kindOf(b))
			mustNotMake(t, b+" to "+a, kindOf(b), kindOf(a))
		}
	}
}

// A from that does not fit.
func TestMakeOfWhatDoesNotFit(t *testing.T) {
	for _, c := range [][2]string{
		{"{a:num}", "{}"}, {"{}", "{a:num}"}, {"{a:num}", "{b:num}"}, {"{a:num}", "{a:text}"}, {"{a:?num}", "{a:num}"}, {"{a:num,b:num}", "{a:num}"}, {"{a:num}", "{a:num,b:num}"}, {"{a:num}", "{a:num,b:[num]}"}, {"{a:num}", "{a:num,b:{}}"},
		{"{a:num}", "{a:[num]}"}, {"{a:[num]}", "{a:num}"}, {"{a:[num]}", "{a:[text]}"}, {"{a:[?num]}", "{a:[num]}"}, {"{a:[num]}", "{a:?num}"}, {"{a:num}", "{a:?text}"}, {"{a:?num}", "{a:?text}"}, {"{a:??num}", "{a:?num}"}, {"{a:?[num]}", "{a:[num]}"},
		{"{a:{b:num}}", "{a:{}}"}, {"{a:{}}", "{a:{b:num}}"}, {"{a:{b:num}}", "{a:num}"}, {"{a:num}", "{a:{}}"}, {"{a:{b:num}}", "{a:{b:text}}"}, {"{a:?{b:num}}", "{a:?{}}"}, {"{a:[{b:?num}]}", "{a:[{b:num}]}"}, {"{a:num,b:{c:[num]}}", "{a:?num,b:{c:[text]}}"}, {"{a:num,z:text}", "{a:?num,z:num}"},
	} {
		mustNotMake(t, c[0]+" to "+c[1], kindOf(c[0]), kindOf(c[1]))
	}
}

// Schemas that are not ok, on either side and on both, also where the two are the same.
func TestMakeOfWhatIsNotOk(t *testing.T) {
	good := []impl.Kind{formKind(""), kindOf("{a:num}"), kindOf("{a:?num,b:?num}")}
	look := func(what string, k impl.Kind) {
		t.Helper()
		for _, other := range good {
			mustNotMake(t, what+", from it", k, other)
			mustNotMake(t, what+", to it", other, k)
		}
		mustNotMake(t, what+", both", k, k)
	}
	for what, k := range wrongKinds() {
		look(what, k)
		look(what+", in a form", formKind("a", k))
		look(what+", in a maybe in a form", formKind("a b", numKind(), maybeKind(k)))
		look(what+", in a list in a form", formKind("a", listKind(k)))
		mustNotMake(t, what+", beside one that is ok", formKind("a", numKind()), formKind("a b", numKind(), maybeKind(k)))
		mustNotMake(t, what+", the other in a maybe", formKind("a", k), formKind("a", maybeKind(k)))
	}
	look("nothing", impl.Kind{})
	self := formKind("a", numKind())
	self.Kids[0] = self
	look("a form within itself", self)
	huge := formKind("")
	for range 40 {
		huge = formKind("a b", huge, huge)
	}
	look("a form of many levels", huge)
}

// What is just met by a schema is made, and one more is no schema any more.
func TestMakeOfSchemasJustMet(t *testing.T) {
	for names := 17; names <= 21; names++ {
		if got := makes(t, wideKind(names, numKind()), wideKind(names, maybeKind(numKind()))); (got != "") != (1+2*names <= 40) {
			t.Errorf("%d names: %q", names, got)
		}
		if got := makes(t, formKind(""), wideKind(names, maybeKind(numKind()))); (got != "") != (1+2*names <= 40) {
			t.Errorf("%d names that from has not: %q", names, got)
		}
	}
	for names := 37; names <= 42; names++ {
		if got := makes(t, wideKind(names, numKind()), wideKind(names, numKind())); (got == "emit old") != (1+names <= 40) {
			t.Errorf("%d names that stay: %q", names, got)
		}
	}
	k := numKind()
	for levels := 1; levels <= 8; levels++ {
		if got := makes(t, formKind("a", numKind()), formKind("a", maybeKind(k))); (got != "") != (levels+2 <= 6) {
			t.Errorf("%d levels: %q", levels+2, got)
		}
		k = maybeKind(k)
	}
}
