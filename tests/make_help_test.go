package tests

import (
	"fmt"
	"slices"
	"strings"
	"testing"

	"loop.example/tealang/impl"
)

// takenWords says a second time what chapter 14 says of what takes a value to a schema into which its own fits; values are words to it.
func takenWords(v string, from, to impl.Kind, d int) string {
	x := fmt.Sprintf("x%d", d)
	fromMaybe, toMaybe := from.Sort == impl.TreeMaybe, to.Sort == impl.TreeMaybe
	switch {
	case impl.KindWrite(from) == impl.KindWrite(to):
		return v
	case fromMaybe && toMaybe:
		return fmt.Sprintf("case %s %s some %s none %s", x, v, takenWords(x, from.Kids[0], to.Kids[0], d+1), impl.KindWrite(to.Kids[0]))
	case toMaybe:
		return "some " + takenWords(v, from, to.Kids[0], d)
	case to.Sort == impl.TreeList:
		return fmt.Sprintf("map %s %s %s", x, v, takenWords(x, from.Kids[0], to.Kids[0], d+1))
	}
	words := "form"
	for i, name := range to.Names {
		words += " " + name + " "
		if at := slices.Index(from.Names, name); at >= 0 {
			words += takenWords("get "+name+" "+v, from.Kids[at], to.Kids[i], d)
		} else {
			words += "none " + impl.KindWrite(to.Kids[i].Kids[0])
		}
	}
	return words + " end"
}

// madeAsSaid is the text of what LiftMake must make of schemas that are ok; empty, if it must make nothing.
func madeAsSaid(from, to impl.Kind) string {
	if from.Sort != impl.TreeForm || to.Sort != impl.TreeForm || !fitsInto(from, to) {
		return ""
	}
	words := "emit " + takenWords("old", from, to, 0)
	n, fault := parsed(words)
	if fault.Code != 0 || checkAsSaid(from, emitsOf(to), n).Code != 0 {
		return ""
	}
	return words
}

// emitsOf is the one sink of what goes to a schema alone.
func emitsOf(to impl.Kind) []impl.LiftSink {
	return []impl.LiftSink{{Kind: to}}
}

// makes is the text of what LiftMake makes; empty, if that is nothing.
func makes(t *testing.T, from, to impl.Kind) string {
	t.Helper()
	n, ok := impl.LiftMake(from, to)
	if !ok && !isNoNode(n) || ok && !impl.LiftOk(n) {
		t.Errorf("%s to %s: %v beside %s", impl.KindWrite(from), impl.KindWrite(to), ok, nodeWords(n))
	}
	if !ok {
		return ""
	}
	return nodeWords(n)
}

// mustMake takes the text of what is made; empty, if that is nothing.
func mustMake(t *testing.T, from, to string, words string) {
	t.Helper()
	if got := makes(t, kindOf(from), kindOf(to)); got != words {
		t.Errorf("%s to %s: %q, not %q", from, to, got, words)
	}
}

// mustMakeAsSaid says whether something is made.
func mustMakeAsSaid(t *testing.T, from, to impl.Kind) bool {
	t.Helper()
	got, said := makes(t, from, to), madeAsSaid(from, to)
	if got != said {
		t.Errorf("%s to %s: %q, not %q", impl.KindWrite(from), impl.KindWrite(to), got, said)
	}
	return got != ""
}

// tryAsSaid says a second time what LiftTry must tell.
func tryAsSaid(s, from, to, body string) string {
	a, aOk := impl.KindRead(from)
	b, bOk := impl.KindRead(to)
	if !aOk || !bOk || a.Sort != impl.TreeForm || b.Sort != impl.TreeForm {
		return "no schema\n"
	}
	n, fault := parsed(s)
	if fault.Code == 0 {
		fault = checkAsSaid(a, emitsOf(b), n)
	}
	if fault.Code != 0 {
		return fmt.Sprintf("fault %d at %d\n", fault.Code, fault.At)
	}
	old, ok := impl.TreeRead(body)
	if !ok || !isOfKind(a, old) {
		return "no body\n"
	}
	done := doneBy(n, []impl.LiftBound{{Name: "old", Tree: old}})
	if done.Code != 0 {
		return fmt.Sprintf("stop %d %d\n", done.Code, done.Why)
	}
	var lines strings.Builder
	for _, out := range done.Outs {
		fmt.Fprintf(&lines, "emit %s\n", impl.TreeWrite(out.Body))
	}
	if lines.Len() == 0 {
		return "drop\n"
	}
	return lines.String()
}

func mustTry(t *testing.T, s, from, to, body string, answer string) {
	t.Helper()
	if got := impl.LiftTry(s, from, to, body); got != answer {
		t.Errorf("%.200q from %.90q to %.90q of %.90q: %.200q, not %.200q", s, from, to, body, got, answer)
	}
}

func mustTryAsSaid(t *testing.T, s, from, to, body string) string {
	t.Helper()
	answer := tryAsSaid(s, from, to, body)
	mustTry(t, s, from, to, body, answer)
	return answer
}
