package tests

import (
	"slices"
	"strings"
	"testing"

	"loop.example/tealang/impl"
)

func mustKindBe(t *testing.T, what string, vars []impl.LiftVar, n impl.LiftNode, answer string) {
	t.Helper()
	k, fault := impl.LiftKind(vars, n)
	if told(fault) != answer || !isNoKind(k) {
		t.Errorf("%s: %v, %s, not %s", what, k, told(fault), answer)
	}
}

// endless are nodes that are their own kids, or have these many times over.
func endless() map[string]impl.LiftNode {
	value := node(impl.LiftAdd, "", numNode(1), numNode(1))
	value.Kids[1] = value
	action := node(impl.LiftBoth, "", dropNode(), dropNode())
	action.Kids[0] = action
	huge := numNode(1)
	for range 60 {
		huge = node(impl.LiftAdd, "", huge, huge)
	}
	return map[string]impl.LiftNode{"a value that is its own kid": value, "an action that is its own kid": action, "a value of many levels": huge, "an action with that": emitNode(huge)}
}

// What is no value that is ok is told ahead of all.
func TestCheckNoValue(t *testing.T) {
	bad := []impl.LiftVar{{Name: "A", Kind: numKind()}}
	look := func(what string, n impl.LiftNode) {
		t.Helper()
		mustKindBe(t, what, nil, n, "2@0")
		mustKindBe(t, what, varsOf("old num x num"), n, "2@0")
		mustKindBe(t, what+", and vars that are wrong", bad, n, "2@0")
	}
	look("nothing", impl.LiftNode{})
	for _, c := range ordinaryNodes() {
		look(c.what, c.node)
		look(c.what+" in a value", node(impl.LiftSome, "", c.node))
	}
	for what, n := range wrongValues() {
		look(what, n)
		look(what+", below", node(impl.LiftForm, "a b", nameNode("zzz"), node(impl.LiftAdd, "", textNode(""), n)))
	}
	for what, n := range endless() {
		look(what, n)
	}
	for _, op := range []int{-1, 0, 36, 43, 44, 300, 1 << 30} {
		look("no op", impl.LiftNode{Op: op})
	}
	look("201 nodes", formNode(200, numNode(1)))
	look("25 levels", notNode(25))
	long := longNode(3001).Kids[0]
	long.Kids[len(long.Kids)-1].Text += "fives"
	look("3001 bytes", long)
	long.Kids[len(long.Kids)-1].Text = strings.TrimSuffix(long.Kids[len(long.Kids)-1].Text, "s")
	if _, fault := impl.LiftKind(nil, long); len(nodeWords(long)) != 3000 || fault != (impl.LiftFault{}) {
		t.Errorf("%d bytes: %v", len(nodeWords(long)), fault)
	}
	mustKindBe(t, "200 nodes", nil, formNode(199, numNode(1)), "7@0")
	if k, fault := impl.LiftKind(nil, notNode(24)); fault.Code != 0 || !sameKind(k, flagKind()) {
		t.Errorf("24 levels: %v", fault)
	}
}

// notNames are no names.
func notNames() []string {
	return []string{"", " ", "A", "aB", "9", "9a", "a b", "a_", "a\n", "a\x00", "é", "abcdefghi", "a-", strings.Repeat("a", 1000000)}
}

// Vars without a name, or with a Kind that is not ok, wherever they stand, and whether they are used or not.
func TestCheckWrongVars(t *testing.T) {
	good := varsOf("a num b text x [num]")
	look := func(what string, bad impl.LiftVar) {
		t.Helper()
		for place := range len(good) + 1 {
			for _, s := range []string{"1", "a", "add a 1", "zzz", "add b a", "get z form end", "some some some some some some 1"} {
				mustKindBe(t, what, slices.Insert(slices.Clone(good), place, bad), valueOf(s), "6@0")
			}
		}
		mustKindBe(t, what, []impl.LiftVar{bad}, numNode(1), "6@0")
		mustKindBe(t, what, []impl.LiftVar{bad, {Name: "a", Kind: numKind()}}, nameNode("a"), "6@0")
	}
	for _, name := range notNames() {
		look("the name "+name[:min(len(name), 9)], impl.LiftVar{Name: name, Kind: numKind()})
	}
	for what, k := range wrongKinds() {
		look(what, impl.LiftVar{Name: "a", Kind: k})
		look(what, impl.LiftVar{Name: "", Kind: k})
	}
	self := listKind(numKind())
	self.Kids[0] = self
	look("a schema within itself", impl.LiftVar{Name: "a", Kind: self})
	look("nothing", impl.LiftVar{})
}

// What is no action that is ok is told ahead of all.
func TestCheckNoAction(t *testing.T) {
	from, sinks := kindOf("{l:[num]}"), sinksOf("{}")
	look := func(what string, n impl.LiftNode) {
		t.Helper()
		for _, fault := range []impl.LiftFault{
			impl.LiftCheck(from, sinks, n), impl.LiftCheck(from, nil, n), impl.LiftCheck(numKind(), sinks, n), impl.LiftCheck(impl.Kind{}, nil, n), impl.LiftCheck(from, []impl.LiftSink{{}}, n),
		} {
			if told(fault) != "2@0" {
				t.Errorf("%s: %v", what, fault)
			}
		}
	}
	look("nothing", impl.LiftNode{})
	for _, c := range ordinaryNodes() {
		if c.node.Op == impl.LiftEmit {
			look(c.what, c.node.Kids[0])
		}
		look(c.what+" as a value", emitNode(c.node))
	}
	for what, n := range wrongValues() {
		look(what, n)
		look(what+", in an action", emitNode(n))
		look(what+", behind a fault", node(impl.LiftBoth, "", sendNode("t", 1, nameNode("x")), emitNode(n)))
	}
	for what, n := range endless() {
		look(what, n)
	}
	look("201 nodes", emitNode(formNode(199, numNode(1))))
	look("25 levels", bothNode(25))
	look("3001 bytes", longNode(3001))
	look("fail 100", failNode(100))
	look("send of version 0", sendNode("t", 0, node(impl.LiftForm, "")))
	look("send of version 13", sendNode("t", 13, node(impl.LiftForm, "")))
}

// A from that is no form's schema, or is not ok.
func TestCheckWrongFrom(t *testing.T) {
	look := func(what string, from impl.Kind) {
		t.Helper()
		for _, s := range []string{"drop", "fail 1", "emit old", "emit x", "take old 1 drop", "choose 1 drop drop", "each x get l old each y get l old each z get l old each u get l old drop"} {
			if fault := impl.LiftCheck(from, sinksOf("{}"), actionOf(s)); told(fault) != "6@0" {
				t.Errorf("%s, %s: %v", what, s, fault)
			}
		}
	}
	for what, k := range wrongKinds() {
		look(what, k)
		look(what+", in a form", formKind("a", k))
	}
	for _, s := range []string{"num", "text", "flag", "[num]", "[{}]", "?{}", "?{a:num}", "??{}"} {
		look(s, kindOf(s))
	}
	for _, c := range allKinds() {
		want := "6@0"
		if c.kind.Sort == impl.TreeForm {
			want = "0@0"
		}
		if fault := impl.LiftCheck(c.kind, nil, dropNode()); told(fault) != want {
			t.Errorf("%s: %v, not %s", c.text, fault, want)
		}
	}
}

// Sinks that are not ok in each way, wherever they stand, and whether they are used or not.
func TestCheckWrongSinks(t *testing.T) {
	good := sinksOf("{}", "t 1 {}", "u 12 {n:num}")
	look := func(what string, bad impl.LiftSink) {
		t.Helper()
		for place := range len(good) + 1 {
			for _, s := range []string{"drop", "emit form end", "emit x", "send v 1 form end", "send t 1 form end", "choose 1 drop drop"} {
				if fault := impl.LiftCheck(kindOf("{}"), slices.Insert(slices.Clone(good), place, bad), actionOf(s)); told(fault) != "6@0" {
					t.Errorf("%s at %d, %s: %v", what, place, s, fault)
				}
			}
		}
		if fault := impl.LiftCheck(kindOf("{}"), []impl.LiftSink{bad}, dropNode()); told(fault) != "6@0" {
			t.Errorf("%s alone: %v", what, fault)
		}
	}
	form := formKind("")
	for _, version := range []int{-1, 1, 2, 12, 13, 1 << 30} {
		look("no name, but a version", impl.LiftSink{Version: version, Kind: form})
	}
	for _, version := range []int{-1, 0, 13, 14, 255, 257, -255, 1 << 30} {
		look("a version that is none", impl.LiftSink{Name: "t", Version: version, Kind: form})
	}
	for _, name := range notNames()[1:] {
		look("a name that is none", impl.LiftSink{Name: name, Version: 1, Kind: form})
		look("a name that is none, and no version", impl.LiftSink{Name: name, Kind: form})
	}
	for what, k := range wrongKinds() {
		look(what, impl.LiftSink{Kind: k})
		look(what, impl.LiftSink{Name: "t", Version: 1, Kind: k})
		look(what+", in a form", impl.LiftSink{Name: "t", Version: 1, Kind: formKind("a", k)})
	}
	for _, s := range []string{"num", "text", "flag", "[num]", "[{}]", "?{}"} {
		look(s, impl.LiftSink{Kind: kindOf(s)})
		look(s, impl.LiftSink{Name: "t", Version: 1, Kind: kindOf(s)})
	}
	for version := 1; version <= 12; version++ {
		for _, name := range []string{"t", "end", "add", "abcdefg9"} {
			if fault := impl.LiftCheck(form, []impl.LiftSink{{Name: name, Version: version, Kind: form}}, sendNode(name, version, node(impl.LiftForm, ""))); told(fault) != "0@0" {
				t.Errorf("%s, %d: %v", name, version, fault)
			}
		}
	}
}

func TestCheckCodes(t *testing.T) {
	if impl.LiftUnknown != 5 || impl.LiftWrong != 6 || impl.LiftBigKind != 7 || impl.LiftNoField != 8 || impl.LiftCostly != 9 || impl.LiftWide != 10 {
		t.Error("codes are not those of the document")
	}
}
