package tests

import (
	"strings"
	"testing"

	"loop.example/tealang/impl"
)

type kindCase struct {
	what  string
	kind  impl.Kind
	text  string
	first string
}

func ordinaryKinds() []kindCase {
	return []kindCase{
		{"numbers", numKind(), "num", "0"},
		{"texts", textKind(), "text", `""`},
		{"flags", flagKind(), "flag", "no"},
		{"lists of numbers", listKind(numKind()), "[num]", "[]"},
		{"lists of lists", listKind(listKind(textKind())), "[[text]]", "[]"},
		{"lists of maybes", listKind(maybeKind(flagKind())), "[?flag]", "[]"},
		{"lists of forms", listKind(formKind("a", numKind())), "[{a:num}]", "[]"},
		{"maybe a number", maybeKind(numKind()), "?num", "~"},
		{"maybe a maybe", maybeKind(maybeKind(textKind())), "??text", "~"},
		{"maybe a list", maybeKind(listKind(flagKind())), "?[flag]", "~"},
		{"maybe a form", maybeKind(formKind("a", numKind())), "?{a:num}", "~"},
		{"the empty form", formKind(""), "{}", "{}"},
		{"a form of one name", formKind("z", textKind()), "{z:text}", `{z:""}`},
		{"a form of each sort", formKind("a b c d e f", numKind(), textKind(), flagKind(), listKind(numKind()), formKind(""), maybeKind(numKind())), "{a:num,b:text,c:flag,d:[num],e:{},f:?num}", `{a:0,b:"",c:no,d:[],e:{},f:~}`},
		{"forms within forms", formKind("a b", formKind("x y", numKind(), flagKind()), formKind("z", textKind())), "{a:{x:num,y:flag},b:{z:text}}", `{a:{x:0,y:no},b:{z:""}}`},
		{"a beginning of a name ahead of it", formKind("a a0 a1 aa ab b", numKind(), textKind(), flagKind(), numKind(), textKind(), flagKind()), "{a:num,a0:text,a1:flag,aa:num,ab:text,b:flag}", `{a:0,a0:"",a1:no,aa:0,ab:"",b:no}`},
		{"names that are words", formKind("end flag num text yes", textKind(), numKind(), flagKind(), numKind(), textKind()), "{end:text,flag:num,num:flag,text:num,yes:text}", `{end:"",flag:0,num:no,text:0,yes:""}`},
	}
}

func edgeKinds() []kindCase {
	wideText, wideFirst := strings.Builder{}, strings.Builder{}
	for i, name := range wideKind(39, numKind()).Names {
		comma := ","
		if i == 0 {
			comma = ""
		}
		wideText.WriteString(comma + name + ":flag")
		wideFirst.WriteString(comma + name + ":no")
	}
	chain := impl.Kind{Sort: impl.TreeForm, Names: wide(13, num(0)).Names}
	var chainText, chainFirst []string
	for _, name := range chain.Names {
		chain.Kids = append(chain.Kids, listKind(maybeKind(textKind())))
		chainText = append(chainText, name+":[?text]")
		chainFirst = append(chainFirst, name+":[]")
	}
	return []kindCase{
		{"the longest name", formKind("abcdefgh", numKind()), "{abcdefgh:num}", "{abcdefgh:0}"},
		{"the shortest name", formKind("a", numKind()), "{a:num}", "{a:0}"},
		{"the last letter and digit", formKind("a9 z0", numKind(), textKind()), "{a9:num,z0:text}", `{a9:0,z0:""}`},
		{"the most parts, by names", wideKind(39, flagKind()), "{" + wideText.String() + "}", "{" + wideFirst.String() + "}"},
		{"the most parts, by lists and maybes", chain, "{" + strings.Join(chainText, ",") + "}", "{" + strings.Join(chainFirst, ",") + "}"},
		{"the most levels, by lists", listKind(listKind(listKind(listKind(listKind(numKind()))))), "[[[[[num]]]]]", "[]"},
		{"the most levels, by maybes", maybeKind(maybeKind(maybeKind(maybeKind(maybeKind(textKind()))))), "?????text", "~"},
		{"the most levels, by forms", formKind("a", formKind("b", formKind("c", formKind("d", formKind("e", formKind("")))))), "{a:{b:{c:{d:{e:{}}}}}}", "{a:{b:{c:{d:{e:{}}}}}}"},
		{"the most levels, in the last kid", formKind("a b", numKind(), maybeKind(listKind(formKind("c", maybeKind(flagKind()))))), "{a:num,b:?[{c:?flag}]}", "{a:0,b:~}"},
	}
}

func allKinds() []kindCase {
	return append(ordinaryKinds(), edgeKinds()...)
}

// Promise 3, the part on schemas that are ok.
func TestKindThereAndBack(t *testing.T) {
	for _, c := range allKinds() {
		if !impl.KindOk(c.kind) {
			t.Errorf("%s: not ok", c.what)
		}
		if got := impl.KindWrite(c.kind); got != c.text || len(got) > impl.KindMaxWrite {
			t.Errorf("%s: written as %s, not %s", c.what, got, c.text)
		}
		if got, ok := impl.KindRead(c.text); !ok || !sameKind(got, c.kind) {
			t.Errorf("%s: %s is read as %v, %v", c.what, c.text, got, ok)
		}
	}
}

// Promise 3: the longest text that a schema can have is still one that is read.
func TestKindLongestText(t *testing.T) {
	longest := wideKind(39, textKind())
	written := impl.KindWrite(longest)
	if len(written) != 1+39*(8+1+4+1) || len(written) > impl.KindMaxWrite {
		t.Fatalf("%d bytes", len(written))
	}
	if got, ok := impl.KindRead(written); !ok || !sameKind(got, longest) {
		t.Errorf("not read: %v", ok)
	}
}

// Promise 4.
func TestKindFirst(t *testing.T) {
	for _, c := range allKinds() {
		first := impl.KindFirst(c.kind)
		if got := impl.TreeWrite(first); got != c.first {
			t.Errorf("%s: %s, not %s", c.what, got, c.first)
		}
		if !impl.KindHas(c.kind, first) {
			t.Errorf("%s: the first tree is not of it", c.what)
		}
		if parts := impl.TreeParts(first); parts < 1 || parts > impl.KindMaxParts {
			t.Errorf("%s: %d parts", c.what, parts)
		}
	}
	if parts := impl.TreeParts(impl.KindFirst(wideKind(39, numKind()))); parts != impl.KindMaxParts {
		t.Errorf("%d parts", parts)
	}
}

// The empty list and the nil list are the same value.
func TestKindEmptyLists(t *testing.T) {
	for _, c := range allKinds() {
		full := c.kind
		if len(full.Names) == 0 {
			full.Names = []string{}
		}
		if len(full.Kids) == 0 {
			full.Kids = []impl.Kind{}
		}
		first := impl.KindFirst(full)
		if !impl.KindOk(full) || impl.KindWrite(full) != c.text || !impl.KindHas(full, first) || impl.TreeWrite(first) != c.first {
			t.Errorf("%s", c.what)
		}
	}
	none := impl.Kind{Sort: impl.TreeForm}
	if !impl.KindOk(none) || impl.KindWrite(none) != "{}" || !impl.KindHas(none, impl.Tree{Sort: impl.TreeForm}) {
		t.Error("the empty form, without lists")
	}
}

func TestKindLimits(t *testing.T) {
	if impl.KindMaxParts != 40 || impl.KindMaxWrite != 800 {
		t.Errorf("%d, %d", impl.KindMaxParts, impl.KindMaxWrite)
	}
}
