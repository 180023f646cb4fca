package tests

import (
	"strings"
	"testing"

	"loop.example/tealang/impl"
)

// What fits, by the sort of the schema into which it does, and what does not.
func TestFits(t *testing.T) {
	for _, c := range []struct{ to, fit, others string }{
		{"num", "num", "text flag [num] {} {a:num} ?num ??num"},
		{"text", "text", "num flag [text] {} {a:text} ?text"},
		{"flag", "flag", "num text [flag] {} {a:flag} ?flag"},
		{"[num]", "[num]", "num [text] [flag] [?num] [[num]] ?[num] {} {a:num} [{}]"},
		{"[?num]", "[num] [?num]", "num ?num [text] [?text] [??num] ?[num] ?[?num]"},
		{"[[?num]]", "[[num]] [[?num]]", "[num] [?num] [[text]] [[[num]]] [?[num]]"},
		{"?num", "num ?num", "text ?text ??num [num] ?[num] {} ?{}"},
		{"??num", "num ?num ??num", "text ?text ??text ???num [num]"},
		{"???num", "num ?num ??num ???num", "????num flag"},
		{"?[?num]", "[num] [?num] ?[num] ?[?num]", "num ?num [??num] ??[num] [text] ?[text]"},
		{"[??num]", "[num] [?num] [??num]", "?[num] [???num] [??text] num"},
		{"?{a:?num}", "{} {a:num} {a:?num} ?{} ?{a:num} ?{a:?num}", "{b:num} ?{b:num} {a:text} {a:??num} ??{} num [{}]"},
		{"{}", "{}", "{a:num} {a:?num} ?{} num [num] [{}]"},
		{"{a:num}", "{a:num}", "{} {b:num} {aa:num} {a:text} {a:?num} {a:num,b:num} {a:num,b:?num} num [num] ?{a:num}"},
		{"{a:?num}", "{} {a:num} {a:?num}", "{b:num} {b:?num} {a:text} {a:??num} {a:num,b:num} num"},
		{"{a:num,b:?text}", "{a:num} {a:num,b:text} {a:num,b:?text}", "{} {b:text} {b:?text} {a:num,b:num} {a:?num} {a:num,c:text} {a:num,b:text,c:num} {a:text}"},
		{"{a:?num,b:text,c:?flag}", "{b:text} {a:num,b:text} {b:text,c:flag} {a:?num,b:text,c:flag}", "{} {a:num} {a:num,c:flag} {b:?text} {b:text,d:num} {a:flag,b:text}"},
		{"{a:{b:?num}}", "{a:{}} {a:{b:num}} {a:{b:?num}}", "{} {a:num} {a:{c:num}} {a:{b:text}} {a:?{}} {b:num}"},
		{"{a:?{b:num}}", "{} {a:{b:num}} {a:?{b:num}}", "{a:{}} {a:?{}} {a:{b:?num}} {a:{b:num,c:num}}"},
		{"[{a:num,b:?[text]}]", "[{a:num}] [{a:num,b:[text]}] [{a:num,b:?[text]}]", "{a:num} [{}] [{a:num,b:text}] [{b:[text]}] [{a:num,b:?[?text]}]"},
	} {
		to := mustReadKind(t, c.to)
		for _, s := range strings.Fields(c.fit) {
			if !impl.KindFits(mustReadKind(t, s), to) {
				t.Errorf("%s does not fit into %s", s, c.to)
			}
		}
		for _, s := range strings.Fields(c.others) {
			if impl.KindFits(mustReadKind(t, s), to) {
				t.Errorf("%s fits into %s", s, c.to)
			}
		}
	}
}

// Promise 5, its second half: ordinary schemas, those at the bounds, all small ones.
func TestFitsIntoItself(t *testing.T) {
	for _, c := range allKinds() {
		if !impl.KindFits(c.kind, c.kind) {
			t.Errorf("%s", c.what)
		}
	}
	for _, k := range smallKinds(5) {
		if !impl.KindFits(k, k) {
			t.Errorf("%s", impl.KindWrite(k))
		}
	}
}

// Of all small schemas just those fit that the document says; promise 7, its first half, of them.
func TestFitsSmall(t *testing.T) {
	all := smallKinds(4)
	into := make([][]int, len(all))
	fits := make([][]bool, len(all))
	for i, from := range all {
		fits[i] = make([]bool, len(all))
		for j, to := range all {
			fits[i][j] = impl.KindFits(from, to)
			if fits[i][j] {
				into[i] = append(into[i], j)
			}
			if fits[i][j] != fitsInto(from, to) {
				t.Fatalf("%s fits into %s: %v", impl.KindWrite(from), impl.KindWrite(to), fits[i][j])
			}
		}
	}
	for i := range all {
		for _, j := range into[i] {
			for _, k := range into[j] {
				if !fits[i][k] {
					t.Fatalf("%s fits into %s, that into %s", impl.KindWrite(all[i]), impl.KindWrite(all[j]), impl.KindWrite(all[k]))
				}
			}
		}
	}
}

// What is just met fits, and one more is no schema any more.
func TestFitsJustMet(t *testing.T) {
	to := numKind()
	for levels := 1; levels <= 9; levels++ {
		if got := impl.KindFits(numKind(), to); got != (levels <= 6) {
			t.Errorf("into %d levels: %v", levels, got)
		}
		if got := impl.KindFits(to, to); got != (levels <= 6) {
			t.Errorf("%d levels: %v", levels, got)
		}
		to = maybeKind(to)
	}
	for names := 1; names <= 45; names++ {
		to := wideKind(names, maybeKind(numKind()))
		if got := impl.KindFits(formKind(""), to); got != (1+2*names <= 40) {
			t.Errorf("into %d names: %v", names, got)
		}
		if got := impl.KindFits(wideKind(names, textKind()), wideKind(names, textKind())); got != (1+names <= 40) {
			t.Errorf("%d names: %v", names, got)
		}
	}
}

// Nothing goes with a schema that is not ok: it fits into none, none into it, and with none it is put together.
func TestWidenOfWrongKinds(t *testing.T) {
	for what, wrong := range wrongKinds() {
		for _, k := range []impl.Kind{wrong, maybeKind(wrong), listKind(wrong), formKind("a", wrong), formKind("a", maybeKind(wrong))} {
			mustNotWiden(t, what, k, k, firstOf(k))
			for _, other := range []impl.Kind{{}, numKind(), formKind(""), maybeKind(numKind()), listKind(numKind()), formKind("a", maybeKind(numKind())), {Sort: k.Sort}} {
				mustNotWiden(t, what, k, other, firstOf(other))
				mustNotWiden(t, what, other, k, firstOf(other))
			}
		}
	}
}

func mustNotWiden(t *testing.T, what string, a, b impl.Kind, x impl.Tree) {
	t.Helper()
	if impl.KindFits(a, b) {
		t.Errorf("%s: %v fits into %v", what, a, b)
	}
	if wider, ok := impl.KindWiden(a, b, x); ok || !isNothing(wider) {
		t.Errorf("%s: %v is widened into %v", what, x, wider)
	}
	if join, ok := impl.KindJoin(a, b); ok || !isNoKind(join) {
		t.Errorf("%s: %v and %v are put together to %v", what, a, b, join)
	}
}

// Schemas that are kids of themselves, or have their kids many times over, are told of at once.
func TestWidenWithoutEnd(t *testing.T) {
	self := maybeKind(numKind())
	self.Kids[0] = self
	huge := maybeKind(numKind())
	for range 30 {
		huge = wideKind(30, huge)
	}
	for _, endless := range []impl.Kind{self, huge} {
		mustNotWiden(t, "without end", endless, endless, maybe())
		mustNotWiden(t, "without end", numKind(), endless, num(1))
		mustNotWiden(t, "without end", endless, numKind(), num(1))
	}
	tree := list(num(1))
	tree.Kids[0] = tree
	if wider, ok := impl.KindWiden(listKind(numKind()), listKind(numKind()), tree); ok || !isNothing(wider) {
		t.Errorf("a tree without end: %v", wider)
	}
}
