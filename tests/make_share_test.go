package tests

import (
	"slices"
	"testing"

	"loop.example/tealang/impl"
)

// sharingKinds are schemas of which the upcasters have one value, or one schema's text, at several places.
func sharingKinds() [][2]string {
	return [][2]string{
		{"{}", "{}"}, {"{aa:num}", "{aa:num}"}, {"{aa:num,bb:num}", "{aa:?num,bb:num,cc:?{dd:num}}"}, {"{aa:{bb:num,cc:num,dd:text}}", "{aa:{bb:num,cc:num,dd:?text}}"}, {"{aa:{bb:{cc:num,dd:num}}}", "{aa:{bb:{cc:num,dd:num,ee:?num}}}"},
		{"{aa:[{bb:num,cc:num}],dd:[{bb:num,cc:num}]}", "{aa:[{bb:?num,cc:num}],dd:[{bb:?num,cc:num}]}"}, {"{aa:?{bb:num,cc:num}}", "{aa:?{bb:num,cc:num,dd:?num}}"}, {"{}", "{aa:?{bb:num},cc:?{bb:num},dd:??{bb:num}}"},
	}
}

// namesAndTexts are all those of a node.
func namesAndTexts(n impl.LiftNode) []string {
	out := append(slices.Clone(n.Names), n.Text)
	for _, kid := range n.Kids {
		out = append(out, namesAndTexts(kid)...)
	}
	return out
}

func namesOfKind(k impl.Kind) []string {
	out := slices.Clone(k.Names)
	for _, kid := range k.Kids {
		out = append(out, namesOfKind(kid)...)
	}
	return out
}

// What is made is new memory: a change of it, or what is put behind the end of one of its lists, is not seen in an argument, elsewhere in it, or in what is made a second time.
func TestMakeAnswerIsNew(t *testing.T) {
	for _, c := range sharingKinds() {
		from, to := kindOf(c[0]), kindOf(c[1])
		n, ok := impl.LiftMake(from, to)
		other, _ := impl.LiftMake(from, to)
		words := nodeWords(n)
		if !ok || words != madeAsSaid(from, to) {
			t.Fatalf("%s to %s: %s", c[0], c[1], words)
		}
		appendToAll(n)
		if got := nodeWords(n); got != words {
			t.Errorf("%s, when its lists grew %s", words, got)
		}
		mustNotLieIn(t, namesAndTexts(n), slices.Concat(namesOfKind(from), namesOfKind(to)))
		spoilNames(n)
		if count := twiceSpoilt(n); count != 0 {
			t.Errorf("%s: %d names are changed more than once, or not at all", words, count)
		}
		spoilNode(n)
		if got := spoiltNodes(n); got != nodesOf(n)-1 {
			t.Errorf("%s: %d nodes of %d are changed once", words, got, nodesOf(n)-1)
		}
		if nodeWords(other) != words || impl.KindWrite(from) != c[0] || impl.KindWrite(to) != c[1] {
			t.Errorf("%s: changed with the answer", words)
		}
	}
}

// spoilNames puts a byte behind each name.
func spoilNames(n impl.LiftNode) {
	for i := range n.Names {
		n.Names[i] += "!"
	}
	for _, kid := range n.Kids {
		spoilNames(kid)
	}
}

// twiceSpoilt counts the names that have not just one such byte.
func twiceSpoilt(n impl.LiftNode) int {
	count := 0
	for _, name := range n.Names {
		if len(name) < 2 || name[len(name)-1] != '!' || name[len(name)-2] == '!' {
			count++
		}
	}
	for _, kid := range n.Kids {
		count += twiceSpoilt(kid)
	}
	return count
}

// Nothing is written into an argument, or behind its end; what lies behind the end is not read.
func TestMakeArgumentsStay(t *testing.T) {
	names := []string{"b", "d", "e", "zz"}
	kinds := []impl.Kind{numKind(), textKind(), flagKind(), {}}
	wider := []impl.Kind{maybeKind(numKind()), textKind(), maybeKind(flagKind()), {}}
	from := impl.Kind{Sort: impl.TreeForm, Names: names[:2], Kids: kinds[:2]}
	to := impl.Kind{Sort: impl.TreeForm, Names: names[:3], Kids: wider[:3]}
	for range 2 {
		if got := makes(t, from, to); got != "emit form b some get b old d get d old e none flag end" {
			t.Error(got)
		}
	}
	if !slices.Equal(names, []string{"b", "d", "e", "zz"}) || !slices.EqualFunc(kinds, []impl.Kind{numKind(), textKind(), flagKind(), {}}, sameKind) || !slices.EqualFunc(wider, []impl.Kind{maybeKind(numKind()), textKind(), maybeKind(flagKind()), {}}, sameKind) {
		t.Errorf("%v %v %v", names, kinds, wider)
	}
}

// The same answers come again, whatever was asked in between.
func TestMakeKeepsNothing(t *testing.T) {
	for range 3 {
		mustMake(t, "{a:[num]}", "{a:[?num]}", "emit form a map x0 get a old some x0 end")
		mustMake(t, "{a:[num]}", "{a:num}", "")
		mustMake(t, "{a:[[num]]}", "{a:[[?num]]}", "emit form a map x0 get a old map x1 x0 some x1 end")
		mustTry(t, "emit old", "{a:num}", "{a:num}", "{a:1}", "emit {a:1}\n")
		mustTry(t, "emit old", "{a:num}", "{a:num}", "{a:yes}", "no body\n")
		mustTry(t, "fail 3", "{a:num}", "{a:num}", "{a:1}", "stop 5 3\n")
		mustTry(t, "emit", "{a:num}", "{a:num}", "{a:1}", "fault 2 at 1\n")
		mustTry(t, "drop", "{a:num}", "{a:num}", "{a:1}", "drop\n")
		mustTry(t, "drop", "num", "{a:num}", "{a:1}", "no schema\n")
	}
}
