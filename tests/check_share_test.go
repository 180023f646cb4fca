package tests

import (
	"slices"
	"strings"
	"testing"
	"unsafe"

	"loop.example/tealang/impl"
)

// sharing are values whose schema has that of x, a form's with a form within it, several times.
func sharing() []string {
	return []string{
		"x", "form a x b x end", "put b x x", "put c x get b x", "cut c x", "get b x", "one x", "some x", "let y x form a y b y end", "map y one x y", "map y one x put a y y",
		"fold a y one x x a", "if yes x x", "case y some x y x", "else some x x", "at one x 0", "join one x one x", "part one x 0 1", "keep y one x yes", "let y put a x x put b y y",
	}
}

// An answer is new memory: a change of it, or what is put behind the end of one of its lists, is not seen in an argument, elsewhere in it, or in a second answer.
func TestCheckAnswerIsNew(t *testing.T) {
	vars := varsOf("x {a:num,b:{p:num,q:[text]},c:?num} x {a:num,b:{p:num,q:[text]},c:?num}")
	vars[1] = vars[0]
	before := impl.KindWrite(vars[0].Kind)
	for _, s := range sharing() {
		n := valueOf(s)
		k, _ := impl.LiftKind(vars, n)
		other, fault := impl.LiftKind(vars, n)
		text, parts := impl.KindWrite(k), kindParts(k)
		if fault != (impl.LiftFault{}) {
			t.Fatalf("%s: %v", s, fault)
		}
		appendToKinds(k)
		if got := impl.KindWrite(k); got != text {
			t.Errorf("%s: %s, when its lists grew %s", s, text, got)
		}
		spoilKind(k)
		if got := spoiltKinds(k); got != parts-1 {
			t.Errorf("%s: %d parts of %d are changed once", s, got, parts-1)
		}
		if impl.KindWrite(other) != text || impl.KindWrite(vars[0].Kind) != before || nodeWords(n) != s {
			t.Errorf("%s: changed with the answer", s)
		}
	}
}

// appendToKinds puts something behind the end of each list.
func appendToKinds(k impl.Kind) {
	_ = append(k.Names, "zz")
	_ = append(k.Kids, flagKind())
	for _, kid := range k.Kids {
		appendToKinds(kid)
	}
}

// spoilKind adds 1000 to the Sort of each part below this one, and changes all names.
func spoilKind(k impl.Kind) {
	for i := range k.Names {
		k.Names[i] += "!"
	}
	for i := range k.Kids {
		k.Kids[i].Sort += 1000
		spoilKind(k.Kids[i])
	}
}

// spoiltKinds counts those that were changed just once, their names too.
func spoiltKinds(k impl.Kind) int {
	count := 0
	for _, name := range k.Names {
		if strings.Count(name, "!") != 1 {
			count -= 1000
		}
	}
	for _, kid := range k.Kids {
		if 1000 <= kid.Sort && kid.Sort < 2000 {
			count++
		}
		count += spoiltKinds(kid)
	}
	return count
}

// No name of an answer lies in an argument.
func TestCheckAnswerSharesNoText(t *testing.T) {
	n := impl.LiftNode{Op: impl.LiftForm, Names: []string{strings.Clone("aa"), strings.Clone("bb"), strings.Clone("cc")}, Kids: []impl.LiftNode{
		nameNode("x"), kindNode(impl.LiftNone, strings.Clone("{dd:num}")), {Op: impl.LiftPut, Names: []string{strings.Clone("ee")}, Kids: []impl.LiftNode{nameNode("x"), numNode(1)}},
	}}
	vars := []impl.LiftVar{{Name: "x", Kind: impl.Kind{Sort: impl.TreeForm, Names: []string{strings.Clone("ff")}, Kids: []impl.Kind{numKind()}}}}
	k, fault := impl.LiftKind(vars, n)
	if got := impl.KindWrite(k); fault.Code != 0 || got != "{aa:{ff:num},bb:?{dd:num},cc:{ee:num,ff:num}}" {
		t.Fatalf("%s, %v", got, fault)
	}
	given := append(slices.Clone(n.Names), n.Kids[1].Text, n.Kids[2].Names[0], vars[0].Kind.Names[0])
	var look func(k impl.Kind)
	look = func(k impl.Kind) {
		for _, name := range k.Names {
			at := uintptr(unsafe.Pointer(unsafe.StringData(name)))
			for _, word := range given {
				start := uintptr(unsafe.Pointer(unsafe.StringData(word)))
				if start <= at && at < start+uintptr(len(word)) {
					t.Errorf("%s lies in an argument", name)
				}
			}
		}
		for _, kid := range k.Kids {
			look(kid)
		}
	}
	look(k)
}

// Nothing is written into an argument, or behind its end; what lies behind the end is not read.
func TestCheckArgumentsStay(t *testing.T) {
	names := []string{"b", "d", "e", "zz"}
	kinds := []impl.Kind{numKind(), textKind(), flagKind(), {}}
	form := impl.Kind{Sort: impl.TreeForm, Names: names[:3], Kids: kinds[:3]}
	vars := []impl.LiftVar{{Name: "x", Kind: form}, {Name: "y", Kind: form}, {Name: "NONE"}}
	sinks := []impl.LiftSink{{Kind: form}, {Name: "NONE"}}
	for s, kind := range map[string]string{
		"put a x 1": "{a:num,b:num,d:text,e:flag}", "put c x 1": "{b:num,c:num,d:text,e:flag}", "put f x 1": "{b:num,d:text,e:flag,f:num}", "put d x 1": "{b:num,d:num,e:flag}",
		"cut b x": "{d:text,e:flag}", "cut d x": "{b:num,e:flag}", "cut e x": "{b:num,d:text}", "cut b cut d put a put c x 1 y": "{a:{b:num,d:text,e:flag},c:num,e:flag}",
	} {
		mustAnswer(t, vars[:2], s, kind)
		mustAnswer(t, vars[:2], "let z "+s+" x", "{b:num,d:text,e:flag}")
	}
	for _, s := range []string{"put a old 1", "put d old 1", "cut b old", "cut d old", "cut e old"} {
		if fault := impl.LiftCheck(form, sinks[:1], actionOf("take x old both take z "+s+" drop emit x")); fault != (impl.LiftFault{}) {
			t.Errorf("%s: %v", s, fault)
		}
	}
	if !slices.Equal(names, []string{"b", "d", "e", "zz"}) || !slices.EqualFunc(kinds, []impl.Kind{numKind(), textKind(), flagKind(), {}}, sameKind) {
		t.Errorf("%v %v", names, kinds)
	}
	if vars[2].Name != "NONE" || sinks[1].Name != "NONE" || !isNoKind(vars[2].Kind) {
		t.Errorf("%v %v", vars, sinks)
	}
	all := []impl.LiftNode{numNode(1), numNode(2), textNode("")}
	n := impl.LiftNode{Op: impl.LiftAdd, Kids: all[:2]}
	if impl.LiftCost(n) != 3 || impl.LiftCost(impl.LiftNode{Op: impl.LiftAdd, Kids: all[:1]}) != 0 || !sameNode(all[2], textNode("")) {
		t.Errorf("%v", all)
	}
}

// The same answer comes again, whatever was asked in between.
func TestCheckKeepsNothing(t *testing.T) {
	for range 3 {
		mustAnswer(t, varsOf("x num"), "let y x y", "num")
		mustAnswer(t, nil, "x", "5@0")
		mustAnswer(t, nil, "y", "5@0")
		mustAnswer(t, nil, "add 1 x", "5@2")
		mustCheck(t, "{}", sinksOf("{}"), "emit old", "0@0")
		mustCheck(t, "{}", nil, "emit old", "5@0")
		mustAnswer(t, nil, "old", "5@0")
	}
}
