package tests

import (
	"strings"
	"testing"

	"loop.example/tealang/impl"
)

// mustBeToTheEnd is promise 20 of one answer: beside what is wrong first it is just what LiftRun makes, each event being of the schema.
func mustBeToTheEnd(t *testing.T, s, from, to, body string, answer string) {
	t.Helper()
	k, kOk := impl.KindRead(to)
	n, fault := impl.LiftParse(s)
	old, oldOk := impl.TreeRead(body)
	word, _, _ := strings.Cut(strings.TrimSuffix(answer, "\n"), " ")
	if word == "no" || word == "fault" {
		if strings.Count(answer, "\n") != 1 {
			t.Errorf("%q", answer)
		}
		return
	}
	done := impl.LiftRun(n, old)
	if !kOk || !oldOk || fault.Code != 0 || (word == "stop") != (done.Code != 0) || (word == "drop") != (done.Code == 0 && len(done.Outs) == 0) {
		t.Errorf("%s of %s: %q, though LiftRun makes %v", s, body, answer, done)
	}
	if word != "emit" {
		return
	}
	lines := strings.Split(strings.TrimSuffix(answer, "\n"), "\n")
	if len(lines) != len(done.Outs) {
		t.Fatalf("%s of %s: %d lines, %d events", s, body, len(lines), len(done.Outs))
	}
	for i, line := range lines {
		x, ok := impl.TreeRead(strings.TrimPrefix(line, "emit "))
		if !ok || !impl.KindHas(k, x) || !sameTree(x, done.Outs[i].Body) {
			t.Errorf("%s of %s: %q, which is not of %s, or not %v", s, body, line, to, done.Outs[i])
		}
	}
}

// tried are the four texts of many upcasters: some with other words, blanks, schemas or bodies.
func (g *valueGrower) tried() (s, from, to, body string) {
	fromKind, toKind := g.aForm(3), g.aForm(3)
	sinks := emitsOf(toKind)
	if g.Intn(8) == 0 {
		sinks = append(sinks, impl.LiftSink{Name: "t", Version: 1, Kind: toKind})
	}
	names := []impl.LiftVar{{Name: "old", Kind: fromKind}}
	n := g.action(names, sinks, 3+g.Intn(12))
	if g.Intn(3) == 0 {
		n = node(impl.LiftBoth, "", g.event(names, sinks, 4), node(impl.LiftBoth, "", n, g.event(names, sinks, 4)))
	}
	old := g.okTreeOf(fromKind)
	s, from, to, body = nodeWords(n), impl.KindWrite(fromKind), impl.KindWrite(toKind), impl.TreeWrite(old)
	switch g.Intn(12) {
	case 0:
		s = g.otherWords(s)
	case 1:
		from = impl.KindWrite(g.aKind(3))
	case 2:
		to = impl.KindWrite(g.aKind(3))
	case 3:
		body = impl.TreeWrite(g.spoilt(old))
	case 4:
		s, body = g.otherWords(s), impl.TreeWrite(g.spoilt(old))
	case 5:
		from, to, body = g.changed(from), g.changed(to), g.changed(body)
	case 6:
		body = g.changed(body)
	}
	if g.Intn(4) == 0 {
		s = g.otherBlanks(s)
	}
	return s, from, to, body
}

// Promise 20, of many upcasters, held against the document, read a second time.
func TestTryMany(t *testing.T) {
	answers := map[string]int{}
	for seed := range 8000 {
		g := newValueGrower(seed, 0, 0, 100)
		s, from, to, body := g.tried()
		answer := mustTryAsSaid(t, s, from, to, body)
		mustBeToTheEnd(t, s, from, to, body, answer)
		words := strings.Fields(answer)
		answers[words[0]]++
		switch words[0] {
		case "no", "fault", "stop":
			answers[words[0]+" "+words[1]]++
		case "emit":
			answers["emits"] += strings.Count(answer, "\n") - 1
		}
	}
	for what, least := range map[string]int{"no schema": 200, "no body": 200, "fault 2": 200, "fault 5": 50, "fault 6": 50, "stop 5": 500, "stop 2": 3, "stop 3": 20, "drop": 500, "emit": 500, "emits": 100} {
		if answers[what] < least {
			t.Errorf("too few of %s: %v", what, answers)
		}
	}
}

// Promise 20, of some upcasters with each of some bodies, from schemas of which they are and of which they are not.
func TestTryAllOfSome(t *testing.T) {
	stops, made := 0, 0
	for _, s := range append(someActions(), "emit put n old 1", "emit cut l old", "each x get l old emit form l one x n x end", "choose same get n old 2 emit old emit put n old 0") {
		for _, from := range []string{"{l:[num],n:num}", "{n:num}", "{}", "{l:text,n:num}", "num"} {
			for _, to := range []string{"{a:num}", "{l:[num],n:num}", "{n:num}", "{}", "{a:num,b:num}", "[num]"} {
				for _, old := range someBodies() {
					body := impl.TreeWrite(old)
					answer := mustTryAsSaid(t, s, from, to, body)
					mustBeToTheEnd(t, s, from, to, body, answer)
					if strings.HasPrefix(answer, "stop") {
						stops++
					} else if strings.HasPrefix(answer, "emit") {
						made++
					}
				}
			}
		}
	}
	if stops < 100 || made < 50 {
		t.Errorf("too few: %d stops, %d made", stops, made)
	}
}
