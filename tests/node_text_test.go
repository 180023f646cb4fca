package tests

import (
	"slices"
	"strings"
	"testing"
	"unsafe"

	"loop.example/tealang/impl"
)

// parsesAsSaid is promise 13 of a text, and holds what is answered against what the document says; it says whether the text was read.
func parsesAsSaid(t *testing.T, s string) bool {
	t.Helper()
	got, fault := impl.LiftParse(s)
	want, wantFault := parsed(s)
	if fault != wantFault || !sameNode(got, want) {
		t.Errorf("%q is read as %v, %v, not as %v, %v", s, got, fault, want, wantFault)
	}
	if fault != (impl.LiftFault{}) {
		return false
	}
	written := impl.LiftWrite(got)
	again, fault := impl.LiftParse(written)
	if !impl.LiftOk(got) || written == "" || fault != (impl.LiftFault{}) || !sameNode(again, got) {
		t.Errorf("%q is read as %v, ok %v, which is written as %q and read as %v, %v", s, got, impl.LiftOk(got), written, again, fault)
	}
	return true
}

// Promise 13, of all short texts of some words.
func TestNodeShortTexts(t *testing.T) {
	words := []string{"drop", "fail", "emit", "send", "both", "choose", "take", "7", "1", "\"q\"", "yes", "x", "end", "form", "a", "not", "none", "num", "%"}
	read := 0
	for size := range 5 {
		for _, all := range rowsOf(words, size) {
			if parsesAsSaid(t, strings.Join(all, " ")) {
				read++
			}
		}
	}
	if read < 100 {
		t.Errorf("too few: %d read", read)
	}
}

// rowsOf are all rows of so many words.
func rowsOf(words []string, size int) [][]string {
	if size == 0 {
		return [][]string{nil}
	}
	var out [][]string
	for _, row := range rowsOf(words, size-1) {
		for _, word := range words {
			out = append(out, append(slices.Clip(row), word))
		}
	}
	return out
}

// Promise 13, of all short texts of some bytes behind an action: how words are cut.
func TestNodeShortBytes(t *testing.T) {
	read := 0
	for size := range 7 {
		for _, s := range allStrings("\" \nx1\t", size) {
			for _, head := range []string{"emit same ", "emit "} {
				if parsesAsSaid(t, head+s) {
					read++
				}
			}
		}
	}
	if read < 1000 {
		t.Errorf("too few: %d read", read)
	}
}

// Promise 13, of what is one byte away from the text of an action.
func TestNodeOneByteAway(t *testing.T) {
	for _, c := range allNodes() {
		if len(c.text) > 25 { // it takes long, and tells no more than a short one
			continue
		}
		for s := range oneByteAway(c.text) {
			parsesAsSaid(t, s)
		}
	}
}

const wholeNode = `both send abc 3 form a fold de fg empty {h:num} "some text" join "more" de b let x 7 x end each y get jkl old choose yes drop fail 9`

func mustParse(t *testing.T, s string) impl.LiftNode {
	t.Helper()
	n, fault := impl.LiftParse(s)
	if fault != (impl.LiftFault{}) {
		t.Fatalf("%q has the fault %v", s, fault)
	}
	return n
}

// An answer is new memory: what is written into one list of it, or behind its end, is seen in no other.
func TestNodeAnswerIsNew(t *testing.T) {
	first, second := mustParse(t, wholeNode), mustParse(t, wholeNode)
	appendToAll(first)
	if !sameNode(first, second) || impl.LiftWrite(first) != wholeNode {
		t.Errorf("written behind an end: %s", impl.LiftWrite(first))
	}
	spoilNode(first)
	if impl.LiftWrite(second) != wholeNode || !sameNode(mustParse(t, wholeNode), second) {
		t.Errorf("%s, not %s", impl.LiftWrite(second), wholeNode)
	}
	if got := spoiltNodes(first); got != nodesOf(second)-1 {
		t.Errorf("%d nodes are changed, not %d", got, nodesOf(second)-1)
	}
}

// appendToAll writes behind the end of each list.
func appendToAll(n impl.LiftNode) {
	_ = append(n.Names, "behind")
	_ = append(n.Kids, numNode(77))
	for _, kid := range n.Kids {
		appendToAll(kid)
	}
}

// spoilNode adds 1000 to the Num of each node below this one.
func spoilNode(n impl.LiftNode) {
	for i := range n.Kids {
		n.Kids[i].Num += 1000
		spoilNode(n.Kids[i])
	}
}

// spoiltNodes counts those that were changed just once.
func spoiltNodes(n impl.LiftNode) int {
	count := 0
	for _, kid := range n.Kids {
		if 1000 <= kid.Num && kid.Num < 2000 {
			count++
		}
		count += spoiltNodes(kid)
	}
	return count
}

// The texts and the names of an answer do not lie in the text that was read; nor does what is written lie in a node.
func TestNodeAnswerSharesNoText(t *testing.T) {
	given := strings.Clone(wholeNode)
	start := uintptr(unsafe.Pointer(unsafe.StringData(given)))
	var look func(n impl.LiftNode)
	look = func(n impl.LiftNode) {
		for _, word := range append(slices.Clone(n.Names), n.Text) {
			at := uintptr(unsafe.Pointer(unsafe.StringData(word)))
			if word != "" && start <= at && at < start+uintptr(len(given)) {
				t.Errorf("%q lies in the argument", word)
			}
		}
		for _, kid := range n.Kids {
			look(kid)
		}
	}
	n := mustParse(t, given)
	look(n)
	if s := impl.LiftWrite(n); unsafe.StringData(s) == unsafe.StringData(impl.LiftWrite(n)) {
		t.Error("two texts lie at one place")
	}
}

// Nothing is written into an argument, or behind its end; what lies behind the end is not read.
func TestNodeArgumentStays(t *testing.T) {
	names := []string{"a", "b", "c", "d"}
	kids := []impl.LiftNode{numNode(1), nameNode("old"), dropNode(), {}}
	n := emitNode(impl.LiftNode{Op: impl.LiftForm, Names: names[:2], Kids: kids[:2]})
	if !impl.LiftOk(n) || impl.LiftWrite(n) != "emit form a 1 b old end" {
		t.Errorf("%v", n)
	}
	if !slices.Equal(names, []string{"a", "b", "c", "d"}) || !slices.EqualFunc(kids, []impl.LiftNode{numNode(1), nameNode("old"), dropNode(), {}}, sameNode) {
		t.Errorf("%v %v", names, kids)
	}
	folded := emitNode(impl.LiftNode{Op: impl.LiftFold, Names: names[:1], Kids: []impl.LiftNode{numNode(1), numNode(1), numNode(1)}})
	mustBeNoAction(t, "a name behind the end", folded)
	mustBeNoAction(t, "a kid behind the end", emitNode(impl.LiftNode{Op: impl.LiftAdd, Kids: []impl.LiftNode{numNode(1), numNode(1)}[:1]}))
	twice := "drop drop"
	mustBeRead(t, twice[:4], "drop")
}
