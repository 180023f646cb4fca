package tests

import (
	"slices"
	"strings"
	"testing"
	"unsafe"

	"loop.example/tealang/impl"
)

// kindReadsAsItself is promise 3 of one text; it says whether the text was read.
func kindReadsAsItself(t *testing.T, s string) bool {
	t.Helper()
	k, ok := impl.KindRead(s)
	switch {
	case ok && (impl.KindWrite(k) != s || !impl.KindOk(k)):
		t.Errorf("%q is read as %v, which is written as %q", s, k, impl.KindWrite(k))
	case !ok && !isNoKind(k):
		t.Errorf("%q is not read, but answered with %v", s, k)
	}
	return ok
}

// kindWords are what the short texts are put together of.
func kindWords() []string {
	return []string{"num", "text", "[", "]", "?", "{", "}", "a", "b:", ":", ",", " "}
}

// Promise 3, of all texts of few words: those that chapter 2 builds are read, and no others.
func TestKindShortTexts(t *testing.T) {
	for size := range 6 {
		want := map[string]int{}
		for _, s := range kindTexts(size) {
			want[s]++
		}
		for _, s := range allOfWords(kindWords(), size) {
			if got := kindReadsAsItself(t, s); got != (want[s] > 0) {
				t.Errorf("%q is read: %v", s, got)
			}
		}
	}
}

// kindTexts are the texts of schemas of just so many of kindWords.
func kindTexts(size int) []string {
	if size < 1 {
		return nil
	}
	if size == 1 {
		return []string{"num", "text"}
	}
	var out []string
	if size == 2 {
		out = append(out, "{}")
	}
	for _, kid := range kindTexts(size - 1) {
		out = append(out, "?"+kid)
	}
	for _, kid := range kindTexts(size - 2) {
		out = append(out, "["+kid+"]")
	}
	for _, kid := range kindTexts(size - 3) {
		out = append(out, "{b:"+kid+"}")
	}
	for _, kid := range kindTexts(size - 4) {
		for _, name := range []string{"a", "num", "text"} {
			out = append(out, "{"+name+":"+kid+"}", "{"+name+"b:"+kid+"}")
		}
	}
	return out
}

// allOfWords are the texts of just so many words, without anything between.
func allOfWords(words []string, size int) []string {
	out := []string{""}
	for range size {
		var longer []string
		for _, s := range out {
			for _, word := range words {
				longer = append(longer, s+word)
			}
		}
		out = longer
	}
	return out
}

// Promise 3, of texts that are one byte away from a schema's.
func TestKindOneByteAway(t *testing.T) {
	for _, c := range allKinds() {
		if len(c.text) > 100 { // a long one tells no more than a short one
			continue
		}
		for s := range oneByteAway(c.text) {
			kindReadsAsItself(t, s)
		}
	}
}

// An answer is new memory: what is written into one list of it, or behind its end, is seen in no other.
func TestKindAnswerIsNew(t *testing.T) {
	const s = "{a:{x:num,y:text},b:{x:num,y:text},c:[num],d:?[num],e:{}}"
	first, _ := impl.KindRead(s)
	second, _ := impl.KindRead(s)
	for i := range first.Kids {
		kid := &first.Kids[i]
		_ = append(kid.Kids, textKind())
		_ = append(kid.Names, "zz")
		if len(kid.Kids) > 0 {
			kid.Kids[0] = flagKind()
		}
		if len(kid.Names) > 0 {
			kid.Names[0] = "w"
		}
		_ = append(first.Kids, textKind())
		_ = append(first.Names, "zz")
	}
	if got, want := impl.KindWrite(first), "{a:{w:flag,y:text},b:{w:flag,y:text},c:[flag],d:?flag,e:{}}"; got != want {
		t.Errorf("%s, not %s", got, want)
	}
	if got := impl.KindWrite(second); got != s {
		t.Errorf("%s, not %s", got, s)
	}
}

// The names of an answer do not lie in the text that was read.
func TestKindAnswerSharesNoText(t *testing.T) {
	const s = "{abc:num,def:{ghi:text}}"
	k, _ := impl.KindRead(s)
	start := uintptr(unsafe.Pointer(unsafe.StringData(s)))
	for _, word := range append(k.Names, k.Kids[1].Names...) {
		at := uintptr(unsafe.Pointer(unsafe.StringData(word)))
		if start <= at && at < start+uintptr(len(s)) {
			t.Errorf("%q lies in the argument", word)
		}
	}
}

// The first tree shares no list with the schema, and no two forms of it share one.
func TestKindFirstIsNew(t *testing.T) {
	shared := formKind("x y", numKind(), textKind())
	k := formKind("a b", shared, shared)
	first := impl.KindFirst(k)
	first.Names[0] = "a0"
	first.Kids[0].Names[0] = "w"
	first.Kids[0].Kids[0] = flag(1)
	_ = append(first.Kids[0].Names, "zz")
	_ = append(first.Kids[0].Kids, num(1))
	if got, want := impl.TreeWrite(first), `{a0:{w:yes,y:""},b:{x:0,y:""}}`; got != want {
		t.Errorf("%s, not %s", got, want)
	}
	if got, want := impl.KindWrite(k), "{a:{x:num,y:text},b:{x:num,y:text}}"; got != want {
		t.Errorf("%s, not %s", got, want)
	}
}

// Nothing is written into an argument, or behind its end.
func TestKindArgumentStays(t *testing.T) {
	names := strings.Fields("a b c d")
	kids := []impl.Kind{numKind(), listKind(textKind()), flagKind(), textKind()}
	k := impl.Kind{Sort: impl.TreeForm, Names: names[:2], Kids: kids[:2]}
	if !impl.KindOk(k) || impl.KindWrite(k) != "{a:num,b:[text]}" || impl.TreeWrite(impl.KindFirst(k)) != "{a:0,b:[]}" || !impl.KindHas(k, form("a b", num(1), list(text("x")))) {
		t.Errorf("%v", k)
	}
	if !slices.Equal(names, strings.Fields("a b c d")) || !slices.EqualFunc(kids, []impl.Kind{numKind(), listKind(textKind()), flagKind(), textKind()}, sameKind) {
		t.Errorf("%v %v", names, kids)
	}
}
