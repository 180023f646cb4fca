package tests

import (
	"math/rand"
	"slices"
	"strconv"
	"strings"
	"testing"

	"loop.example/tealang/impl"
)

// okTreeOf is a tree of the schema that is ok; some of its numbers and texts are at the edges.
func (g grower) okTreeOf(k impl.Kind) impl.Tree {
	for range 20 {
		x := g.treeOf(k)
		if g.Intn(2) == 0 {
			g.stretch(&x)
		}
		if impl.TreeOk(x) {
			return x
		}
	}
	return impl.KindFirst(k)
}

func (g grower) stretch(x *impl.Tree) {
	switch {
	case x.Sort == impl.TreeNum && g.Intn(2) == 0:
		x.Num = []int{999999999, -999999999, 999999998, 31623, 0, 1, 20}[g.Intn(7)]
	case x.Sort == impl.TreeText && g.Intn(2) == 0:
		x.Text = []string{strings.Repeat("x", 60), strings.Repeat("9", 31), "7", "-05", "999999999"}[g.Intn(5)]
	case x.Sort == impl.TreeList && len(x.Kids) > 0 && g.Intn(3) == 0:
		x.Kids = times(20, x.Kids[0])
	}
	for i := range x.Kids {
		g.stretch(&x.Kids[i])
	}
}

// treesOf binds a tree of its schema to each name.
func (g grower) treesOf(vars []impl.LiftVar) []impl.LiftBound {
	var out []impl.LiftBound
	for _, v := range vars {
		out = append(out, impl.LiftBound{Name: v.Name, Tree: g.okTreeOf(v.Kind)})
	}
	return out
}

func newValueGrower(seed int, slips ...int) *valueGrower {
	g := &valueGrower{grower: grower{rand.New(rand.NewSource(int64(seed)))}}
	g.slips = slips[g.Intn(len(slips))]
	g.left = 3 + g.Intn(150)
	return g
}

// Promise 14: a value that has a schema means a tree of it, or stops with a code from StopOver to StopBig, or with StopBroken, if it costs too much.
func TestRunManyValues(t *testing.T) {
	ends, of := map[string]int{}, map[int]int{}
	for seed := range 8000 {
		g := newValueGrower(seed, 0, 0, 0, 100)
		vars, k := g.someVars(), g.aKind(4)
		n := g.of(k, vars, 3+g.Intn(22))
		kind, fault := impl.LiftKind(vars, n)
		if fault.Code != 0 {
			continue
		}
		for range 3 {
			bound := g.treesOf(vars)
			x, code := impl.LiftEval(bound, n)
			switch {
			case impl.LiftCost(n) > impl.LiftMaxCost:
				if code != impl.StopBroken || !isNothing(x) {
					t.Errorf("%s: code %d, though it costs too much", nodeWords(n), code)
				}
			case code == 0:
				if !impl.KindHas(kind, x) {
					t.Errorf("%s: %s is not of %s", nodeWords(n), impl.TreeWrite(x), impl.KindWrite(kind))
				}
				of[x.Sort]++
			case code < impl.StopOver || code > impl.StopBig || !isNothing(x):
				t.Errorf("%s: code %d", nodeWords(n), code)
			}
			if got, said := meaning(bound, n), meaningAsSaid(bound, n); got != said {
				t.Errorf("%s: %s, not %s", nodeWords(n), got, said)
			}
			ends[strconv.Itoa(code)]++
		}
	}
	for code, least := range map[string]int{"0": 5000, "1": 20, "2": 100, "3": 1000, "4": 20, "6": 100} {
		if ends[code] < least {
			t.Errorf("too few of code %s: %v", code, ends)
		}
	}
	for sort := impl.TreeNum; sort <= impl.TreeMaybe; sort++ {
		if of[sort] < 300 {
			t.Errorf("too few of sort %d: %v", sort, of)
		}
	}
}

// Values with slips in them, and names that are bound to trees of any sort: held against the document, read a second time.
func TestRunManyBrokenValues(t *testing.T) {
	ends := map[string]int{}
	for seed := range 8000 {
		g := newValueGrower(seed, 5, 10, 20, 40)
		vars := g.someVars()
		n := g.of(g.aKind(3), vars, 3+g.Intn(12))
		if !isInNodeBounds(n) {
			mustBeBroken(t, "beyond the bounds", nil, n)
			continue
		}
		bound := g.treesOf(vars)
		for i := range bound {
			if g.Intn(5) == 0 {
				bound[i].Tree = g.okTreeOf(g.aKind(3))
			}
		}
		got, said := meaning(bound, n), meaningAsSaid(bound, n)
		if got != said {
			t.Errorf("%s: %s, not %s", nodeWords(n), got, said)
		}
		ends[got[:min(2, len(got))]]++
	}
	for _, code := range []string{"!2", "!3", "!4", "!6"} {
		if ends[code] < 10 {
			t.Errorf("too few of %s: %v", code, ends)
		}
	}
}

// Promise 11: of an upcaster with which nothing is wrong come events of the schemas of the sinks to which they go, not more than LiftFan says, or a stop with a code from StopOver to StopRefused.
func TestRunManyActions(t *testing.T) {
	codes, events, sends := map[int]int{}, 0, 0
	for seed := range 8000 {
		g := newValueGrower(seed, 0)
		from, sinks := g.aForm(3), g.someSinks()
		n := g.action([]impl.LiftVar{{Name: "old", Kind: from}}, sinks, 3+g.Intn(22))
		if fault := impl.LiftCheck(from, sinks, n); fault.Code != 0 {
			continue
		}
		for range 3 {
			old := g.okTreeOf(from)
			done := impl.LiftRun(n, old)
			mustBeSound(t, n, sinks, done)
			if got, said := doneText(done), doingAsSaid(n, old); got != said {
				t.Errorf("%s: %s, not %s", nodeWords(n), got, said)
			}
			codes[done.Code]++
			events += len(done.Outs)
			for _, out := range done.Outs {
				sends += len(out.Name)
			}
		}
	}
	if codes[0] < 3000 || codes[3] < 100 || codes[5] < 500 || events < 1000 || sends < 200 {
		t.Errorf("too few: %v, %d events, %d by a send", codes, events, sends)
	}
}

// mustBeSound is promise 11 of one run.
func mustBeSound(t *testing.T, n impl.LiftNode, sinks []impl.LiftSink, done impl.LiftDone) {
	t.Helper()
	if done.Code < 0 || done.Code > impl.StopRefused || done.Code != 0 && len(done.Outs) != 0 || done.Code != impl.StopRefused && done.Why != 0 || len(done.Outs) > impl.LiftFan(n) {
		t.Errorf("%s: %v", nodeWords(n), done)
	}
	for _, out := range done.Outs {
		at := slices.IndexFunc(sinks, func(s impl.LiftSink) bool { return s.Name == out.Name && s.Version == out.Version })
		if at < 0 || !impl.KindHas(sinks[at].Kind, out.Body) {
			t.Errorf("%s: %s, which is of no sink", nodeWords(n), eventText(out))
		}
	}
}

// Promise 11, of upcasters at the edges of what can be said: with bodies that are the first of their schema, the largest, and some between.
func TestRunSoundCases(t *testing.T) {
	from := kindOf("{b:{p:num},l:[num],m:?num,n:num,s:text,w:[{p:num}]}")
	bodies := []string{
		`{b:{p:0},l:[],m:~,n:0,s:"",w:[]}`, `{b:{p:-1},l:[1,0,-1],m:?0,n:-1,s:"7",w:[{p:1}]}`, `{b:{p:999999999},l:[999999999,-999999999],m:?999999999,n:999999999,s:"999999999",w:[{p:999999999},{p:0}]}`,
		`{b:{p:1},l:[1,2,3,4,5,6,7,8,9,10,11,12,13,14,15,16,17,18,19,20],m:?1,n:20,s:"` + strings.Repeat("x", 60) + `",w:[{p:1},{p:2},{p:3},{p:4},{p:5},{p:6},{p:7},{p:8},{p:9},{p:10},{p:11},{p:12},{p:13},{p:14},{p:15},{p:16},{p:17},{p:18},{p:19},{p:20}]}`,
	}
	sinks := sinksOf("{a:num}", "t 1 {a:[num]}", "u 2 {a:text}", "v 3 {p:num}", "t 12 {a:?num,b:?[num]}")
	codes := map[int]int{}
	for _, s := range []string{
		"drop", "fail 0", "emit form a get n old end", "emit form a add get n old 1 end", "emit form a mul get n old get n old end", "emit form a div 100 get n old end", "emit form a rem get n old get p get b old end", "emit form a at get l old get n old end", "emit form a at get l old 0 end",
		"emit form a fold a x get l old 0 add a x end", "emit form a fold a x get l old 1 mul a x end", "emit form a else read get s old get n old end", "emit form a else get m old size get s old end", "send u 2 form a join get s old show get n old end", "send u 2 form a part get s old 0 1 end", "send u 2 form a part get s old get n old 20 end",
		"send t 1 form a map x get l old add x x end", "send t 1 form a join get l old get l old end", "send t 1 form a join get l old one get n old end", "send t 1 form a keep x get l old less 0 x end", "send t 1 form a part get l old 1 3 end", "send v 3 get b old", "each x get w old send v 3 x", "each x get w old each y get l old send v 3 put p x add get p x y",
		"send t 12 form a get m old b some get l old end", "send t 12 form a read get s old b none [num] end", "both each x get l old emit form a x end each x get w old send v 3 x", "each x get l old choose less x 0 fail 7 emit form a x end", "case0", "choose less get n old 0 fail 9 take l get l old each x l each y l emit form a sub x y end",
		"each x get w old choose same get p x 5 drop both send v 3 x emit form a case y get m old add y get p x 0 end", "take o put p get b old get n old each x map y get w old put p y get p o send v 3 x",
	} {
		s = strings.ReplaceAll(s, "case0", "emit form a case x get m old case y read get s old div x y x get n old end")
		n := actionOf(s)
		if fault := impl.LiftCheck(from, sinks, n); fault.Code != 0 {
			t.Fatalf("%s: %v", s, fault)
		}
		for _, body := range bodies {
			old := treeOf(body)
			if !impl.KindHas(from, old) {
				t.Fatalf("%s is not of the schema", body)
			}
			done := impl.LiftRun(n, old)
			mustBeSound(t, n, sinks, done)
			if got, said := doneText(done), doingAsSaid(n, old); got != said {
				t.Errorf("%s of %s: %s, not %s", s, body, got, said)
			}
			codes[done.Code]++
		}
	}
	for code := range 6 {
		if codes[code] < 2 {
			t.Errorf("too few: %v", codes)
		}
	}
}

// Actions with slips in them, of bodies of any schema: held against the document, read a second time.
func TestRunManyBrokenActions(t *testing.T) {
	codes := map[string]int{}
	for seed := range 8000 {
		g := newValueGrower(seed, 10, 20, 40)
		from, sinks := g.aForm(3), g.someSinks()
		n := g.action([]impl.LiftVar{{Name: "old", Kind: from}}, sinks, 3+g.Intn(12))
		if g.Intn(20) == 0 {
			list := valueOf("one 1")
			n = node(impl.LiftEach, "w", list, node(impl.LiftEach, "w", list, node(impl.LiftBoth, "", dropNode(), n)))
		}
		if !isInNodeBounds(n) {
			continue
		}
		old := g.okTreeOf(from)
		if g.Intn(4) == 0 {
			old = g.okTreeOf(g.aForm(3))
		}
		got, said := doing(n, old), doingAsSaid(n, old)
		if got != said {
			t.Errorf("%s: %s, not %s", nodeWords(n), got, said)
		}
		codes[got[:min(2, len(got))]]++
	}
	if codes["!5"] < 500 || codes["!6"] < 200 || codes["!3"] < 50 || codes["dr"] < 500 {
		t.Errorf("too few: %v", codes)
	}
}
