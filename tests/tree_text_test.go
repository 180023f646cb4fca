package tests

import (
	"iter"
	"slices"
	"strings"
	"testing"
	"unsafe"

	"loop.example/tealang/impl"
)

// readsAsItself is promise 2 of one text; it says whether the text was read.
func readsAsItself(t *testing.T, s string) bool {
	t.Helper()
	x, ok := impl.TreeRead(s)
	switch {
	case ok && (impl.TreeWrite(x) != s || !impl.TreeOk(x) || impl.TreeParts(x) < 1):
		t.Errorf("%q is read as %v, which is written as %q", s, x, impl.TreeWrite(x))
	case !ok && !isNothing(x):
		t.Errorf("%q is not read, but answered with %v", s, x)
	}
	return ok
}

const shortBytes = "01-\"a[],{}:~? "

// Promises 1 and 2, of all short texts: those that the table of chapter 1 builds are read, and no others.
func TestTreeShortTexts(t *testing.T) {
	for size := range 6 {
		want := map[string]bool{}
		for _, s := range treeTexts(size) {
			want[s] = true
		}
		for _, s := range allStrings(shortBytes, size) {
			if got := readsAsItself(t, s); got != want[s] {
				t.Errorf("%q is read: %v", s, got)
			}
		}
	}
}

// treeTexts are the texts of trees with just so many bytes, all of shortBytes.
func treeTexts(size int) []string {
	if size < 1 {
		return nil
	}
	out := digitTexts(size)
	for _, digits := range digitTexts(size - 1) {
		if digits != "0" {
			out = append(out, "-"+digits)
		}
	}
	if size == 1 {
		return append(out, "~")
	}
	for _, inner := range allStrings(strings.ReplaceAll(shortBytes, `"`, ""), size-2) {
		out = append(out, `"`+inner+`"`)
	}
	for _, kid := range treeTexts(size - 1) {
		out = append(out, "?"+kid)
	}
	if size == 2 {
		return append(out, "[]", "{}")
	}
	for _, kids := range kidTexts(size - 2) {
		out = append(out, "["+kids+"]")
	}
	for _, kid := range treeTexts(size - 4) {
		out = append(out, "{a:"+kid+"}")
	}
	return out
}

func digitTexts(size int) []string {
	if size == 1 {
		return []string{"0", "1"}
	}
	var out []string
	if size > 1 {
		for _, rest := range allStrings("01", size-1) {
			out = append(out, "1"+rest)
		}
	}
	return out
}

// kidTexts are the texts of one tree or more with commas between.
func kidTexts(size int) []string {
	out := treeTexts(size)
	for first := 1; first <= size-2; first++ {
		for _, rest := range kidTexts(size - 1 - first) {
			for _, head := range treeTexts(first) {
				out = append(out, head+","+rest)
			}
		}
	}
	return out
}

// allStrings are those of just so many bytes.
func allStrings(bytes string, size int) []string {
	out := []string{""}
	for range size {
		var longer []string
		for _, s := range out {
			for i := range len(bytes) {
				longer = append(longer, s+bytes[i:i+1])
			}
		}
		out = longer
	}
	return out
}

// Promise 2, of texts that are one byte away from a tree's.
func TestTreeOneByteAway(t *testing.T) {
	for _, c := range append(ordinaryTrees(), edgeTrees()...) {
		for s := range oneByteAway(c.text) {
			readsAsItself(t, s)
		}
	}
}

// oneByteAway tells the texts with a byte more, a byte less, or another byte.
func oneByteAway(s string) iter.Seq[string] {
	return func(yield func(string) bool) {
		for at := range len(s) + 1 {
			ahead, behind := s[:at], s[at:]
			for b := range 256 {
				more := ahead + string([]byte{byte(b)})
				if !yield(more+behind) || behind != "" && !yield(more+behind[1:]) {
					return
				}
			}
			if behind != "" && !yield(ahead+behind[1:]) {
				return
			}
		}
	}
}

// Promise 2 at the bounds, where the text alone tells what is met.
func TestTreeTextsJustMet(t *testing.T) {
	nines := "999999999"
	for _, s := range []string{nines, "-" + nines, `"` + strings.Repeat("~", 60) + `"`, "{abcdefgh:1}", "[1" + strings.Repeat(",1", 19) + "]", "[[[[[~]]]]]", "?[?{a:?5}]", "{a:1,a0:1,aa:1,b:1}", "[" + strings.Repeat("[1,1,1,1],", 19) + "[1,1,1,1]]"} {
		if !readsAsItself(t, s) {
			t.Errorf("%q is not read", s)
		}
	}
}

// An answer is new memory: what is written into one list of it, or behind its end, is seen in no other.
func TestTreeAnswerIsNew(t *testing.T) {
	const s = `[[1,2,3],{a:1,b:"x"},[1,2,3],{a:1,b:"x"},?1,?2,[]]`
	first, _ := impl.TreeRead(s)
	second, _ := impl.TreeRead(s)
	for i := range first.Kids {
		kid := &first.Kids[i]
		_ = append(kid.Kids, num(77))
		_ = append(kid.Names, "zz")
		if len(kid.Kids) > 0 {
			kid.Kids[0] = num(99)
		}
		if len(kid.Names) > 0 {
			kid.Names[0] = "a0"
		}
		_ = append(first.Kids, num(88))
	}
	if got, want := impl.TreeWrite(first), `[[99,2,3],{a0:99,b:"x"},[99,2,3],{a0:99,b:"x"},?99,?99,[]]`; got != want {
		t.Errorf("%s, not %s", got, want)
	}
	if got := impl.TreeWrite(second); got != s {
		t.Errorf("%s, not %s", got, s)
	}
}

// The texts and names of an answer do not lie in the text that was read.
func TestTreeAnswerSharesNoText(t *testing.T) {
	const s = `{abc:"some text",def:"some more"}`
	x, _ := impl.TreeRead(s)
	start := uintptr(unsafe.Pointer(unsafe.StringData(s)))
	for _, word := range append(x.Names, x.Kids[0].Text, x.Kids[1].Text) {
		at := uintptr(unsafe.Pointer(unsafe.StringData(word)))
		if start <= at && at < start+uintptr(len(s)) {
			t.Errorf("%q lies in the argument", word)
		}
	}
}

// Nothing is written into an argument, or behind its end.
func TestTreeArgumentStays(t *testing.T) {
	names := append(make([]string, 0, 4), "a", "b", "c", "d")
	kids := append(make([]impl.Tree, 0, 4), num(1), list(), num(3), num(4))
	x := impl.Tree{Sort: impl.TreeForm, Names: names[:2], Kids: kids[:2]}
	if !impl.TreeOk(x) || impl.TreeParts(x) != 3 || impl.TreeWrite(x) != "{a:1,b:[]}" {
		t.Errorf("%v", x)
	}
	if !slices.Equal(names, []string{"a", "b", "c", "d"}) || !slices.EqualFunc(kids, []impl.Tree{num(1), list(), num(3), num(4)}, sameTree) {
		t.Errorf("%v %v", names, kids)
	}
}
