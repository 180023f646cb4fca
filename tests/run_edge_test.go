package tests

import (
	"slices"
	"strconv"
	"strings"
	"testing"

	"loop.example/tealang/impl"
)

// Numbers of just TreeMaxNum and one more, above and below 0.
func TestRunNumberEdges(t *testing.T) {
	for s, answer := range map[string]string{
		"add 999999999 0": "999999999", "add 999999998 1": "999999999", "add 999999999 1": "!1", "add 1 999999999": "!1", "add 999999999 -1": "999999998", "add 999999999 999999999": "!1", "add 500000000 499999999": "999999999", "add 500000000 500000000": "!1",
		"add -999999999 0": "-999999999", "add -999999998 -1": "-999999999", "add -999999999 -1": "!1", "add -999999999 -999999999": "!1", "add -999999999 999999999": "0",
		"sub -999999998 1": "-999999999", "sub -999999999 1": "!1", "sub 999999998 -1": "999999999", "sub 999999999 -1": "!1", "sub 0 999999999": "-999999999", "sub 0 -999999999": "999999999", "sub -1 999999999": "!1", "sub 1 -999999999": "!1", "sub 999999999 999999999": "0", "sub -999999999 999999999": "!1",
		"mul 999999999 1": "999999999", "mul 999999999 -1": "-999999999", "mul -999999999 -1": "999999999", "mul 333333333 3": "999999999", "mul -333333333 3": "-999999999", "mul 333333333 -3": "-999999999", "mul -333333333 -3": "999999999",
		"mul 500000000 2": "!1", "mul -500000000 2": "!1", "mul 500000000 -2": "!1", "mul -500000000 -2": "!1", "mul 31622 31623": "999982506", "mul 31623 31623": "!1", "mul 999999999 999999999": "!1", "mul -999999999 999999999": "!1", "mul 999999999 0": "0",
		// Products that are small again, if they are cut to 32 bits.
		"mul 65536 65536": "!1", "mul 65536 -65536": "!1", "mul 65537 65536": "!1", "mul 131072 32768": "!1", "mul 99999 42950": "!1", "mul 641 6700417": "!1", "mul 858993459 5": "!1", "mul 858993459 10": "!1",
		"div 999999999 1": "999999999", "div 999999999 -1": "-999999999", "div -999999999 -1": "999999999", "div -999999999 1": "-999999999", "div 999999999 999999999": "1", "div 999999998 999999999": "0", "div -999999999 2": "-499999999",
		"rem 999999999 -1": "0", "rem -999999999 2": "-1", "rem 999999999 1000": "999", "rem -999999999 1000": "-999", "rem 999999998 999999999": "999999998", "rem -999999998 -999999999": "-999999998",
		"fold a x l 999999999 add a x": "!1", "fold a x l 999999990 add a x": "!1", "fold a x l 999999979 add a x": "999999999", "fold a x l -999999979 sub a x": "-999999999", "fold a x l -999999980 sub a x": "!1",
	} {
		mustMean(t, []impl.LiftBound{{Name: "l", Tree: list(times(20, num(1))...)}}, s, answer)
	}
}

// All pairs of numbers at the edges, by each op.
func TestRunNumberPairs(t *testing.T) {
	var numbers []int
	for _, n := range []int{0, 1, 2, 3, 7, 10, 999, 1000, 31622, 31623, 32767, 32768, 46340, 46341, 65535, 65536, 333333333, 333333334, 499999999, 500000000, 999999998, 999999999} {
		numbers = append(numbers, n, -n)
	}
	for _, a := range numbers {
		for _, b := range numbers {
			for op := impl.LiftAdd; op <= impl.LiftSame; op++ {
				n := node(op, "", numNode(a), numNode(b))
				if got, said := meaning(nil, n), meaningAsSaid(nil, n); got != said {
					t.Errorf("%s: %s, not %s", nodeWords(n), got, said)
				}
			}
			// What `div` cuts off is what `rem` leaves.
			if b != 0 {
				s := "add mul " + strconv.Itoa(b) + " div a b rem a b"
				mustMean(t, boundTo("a="+strconv.Itoa(a), "b="+strconv.Itoa(b)), s, strconv.Itoa(a))
			}
		}
	}
}

// `at` at each place of lists of each size, and beside them.
func TestRunAtEdges(t *testing.T) {
	for size := 0; size <= 20; size++ {
		x := list()
		for i := range size {
			x.Kids = append(x.Kids, num(100+i))
		}
		vars := []impl.LiftBound{{Name: "l", Tree: x}}
		for place := -22; place <= 22; place++ {
			answer := "!3"
			if 0 <= place && place < size {
				answer = strconv.Itoa(100 + place)
			}
			mustMean(t, vars, "at l "+strconv.Itoa(place), answer)
		}
		mustMean(t, vars, "size l", strconv.Itoa(size))
	}
}

// `part` from each place to each place, of lists and texts.
func TestRunPartEdges(t *testing.T) {
	for _, size := range []int{0, 1, 2, 3, 19, 20, 59, 60} {
		letters := strings.Repeat("abcdefghij", 6)[:size]
		x, trees := list(), []string{}
		for _, r := range letters[:min(size, 20)] {
			x.Kids = append(x.Kids, text(string(r)))
			trees = append(trees, `"`+string(r)+`"`)
		}
		vars := []impl.LiftBound{{Name: "s", Tree: text(letters)}, {Name: "l", Tree: x}}
		for from := -2; from <= size+2; from++ {
			for to := -2; to <= size+2; to++ {
				ends := " " + strconv.Itoa(from) + " " + strconv.Itoa(to)
				answer := "!3"
				if 0 <= from && from <= to && to <= size {
					answer = `"` + letters[from:to] + `"`
				}
				mustMean(t, vars, "part s"+ends, answer)
				answer = "!3"
				if 0 <= from && from <= to && to <= len(trees) {
					answer = "[" + strings.Join(trees[from:to], ",") + "]"
				}
				mustMean(t, vars, "part l"+ends, answer)
			}
		}
		mustMean(t, vars, "part s 0 999999999", "!3")
		mustMean(t, vars, "part s -999999999 0", "!3")
		mustMean(t, vars, "part l 999999999 999999999", "!3")
	}
}

// bigBound are named by what they have: p120 so many parts, v6 so many levels, l20 so many elements, t60 so many bytes.
func bigBound() []impl.LiftBound {
	sixty := list(append(times(9, list(times(5, num(1))...)), list(times(4, num(1))...))...)
	return append(boundTo("n=7", "k=[]", "q={}"),
		impl.LiftBound{Name: "p118", Tree: wide(117, num(1))}, impl.LiftBound{Name: "p119", Tree: wide(118, num(1))}, impl.LiftBound{Name: "p120", Tree: wide(119, num(1))},
		impl.LiftBound{Name: "v4", Tree: nested(4)}, impl.LiftBound{Name: "v5", Tree: nested(5)}, impl.LiftBound{Name: "v6", Tree: nested(6)},
		impl.LiftBound{Name: "o6", Tree: form("a b", nested(5), num(1))},
		impl.LiftBound{Name: "l1", Tree: list(num(1))}, impl.LiftBound{Name: "l10", Tree: list(times(10, num(1))...)}, impl.LiftBound{Name: "l17", Tree: list(times(17, num(1))...)}, impl.LiftBound{Name: "l19", Tree: list(times(19, num(1))...)}, impl.LiftBound{Name: "l20", Tree: list(times(20, num(1))...)},
		impl.LiftBound{Name: "c60", Tree: sixty}, impl.LiftBound{Name: "c61", Tree: list(times(10, list(times(5, num(1))...))...)}, impl.LiftBound{Name: "c101", Tree: list(times(20, list(times(4, num(1))...))...)},
		impl.LiftBound{Name: "b6", Tree: list(nested(5))}, impl.LiftBound{Name: "m6", Tree: maybe(nested(5))}, impl.LiftBound{Name: "m120", Tree: maybe(wide(118, num(1)))}, impl.LiftBound{Name: "b120", Tree: list(wide(118, num(1)))},
		impl.LiftBound{Name: "t59", Tree: text(strings.Repeat("x", 59))}, impl.LiftBound{Name: "t60", Tree: text(strings.Repeat("y", 60))}, impl.LiftBound{Name: "t1", Tree: text("z")}, impl.LiftBound{Name: "t0", Tree: text("")},
	)
}

// Trees that are just ok, and such that are not, by each op that can make one.
func TestRunBigTrees(t *testing.T) {
	for s, isOk := range map[string]bool{
		"some p119": true, "some p120": false, "some v5": true, "some v6": false, "some some v4": true, "some some v5": false, "some some p118": true, "some some p119": false, "some l20": true, "some t60": true,
		"one p119": true, "one p120": false, "one v5": true, "one v6": false, "one one v4": true, "one one v5": false, "one l20": true,
		"put zz p119 n": true, "put zz p120 n": false, "put aa p119 n": true, "put aa p120 n": false, "put zz p118 l1": true, "put zz p119 l1": false, "put abcdea00 p120 n": true, "put abcdea00 p120 l1": false, "put abcdea00 p119 l1": true, "put abcdea00 p119 some l1": false, "put a q p119": true, "put a q p120": false, "put a q v5": true, "put a q v6": false, "put a o6 v5": true, "put a o6 v6": false, "put b o6 v5": true, "put c o6 v5": true, "put c o6 v6": false, "put a o6 n": true, "put a put a q v5 n": true,
		"form a p119 end": true, "form a p120 end": false, "form a p118 b n end": true, "form a p119 b n end": false, "form a v5 end": true, "form a v6 end": false, "form a n b v6 end": false, "form a n b v5 end": true, "form a c60 b p118 end": false, "form a c60 b l20 c l19 d l17 end": true, "form a c61 b l20 c l19 d l17 end": false, "form a c60 b l20 c l19 d l17 e n end": false,
		"join l19 l1": true, "join l1 l19": true, "join l20 l1": false, "join l1 l20": false, "join l20 k": true, "join k l20": true, "join l10 l10": true, "join l10 join l10 l1": false, "join l20 l20": false, "join c60 c61": true, "join c61 c60": true, "join c61 c61": false, "join c60 c60": true, "join b6 b6": true, "join b6 l19": true, "join b6 l20": false, "join b120 k": true, "join b120 l1": false,
		"join t59 t1": true, "join t1 t59": true, "join t60 t1": false, "join t1 t60": false, "join t60 t0": true, "join t0 t60": true, "join t60 t60": false,
		"map x l20 x": true, "map x l20 l1": true, "map x l20 some some some one n": true, "map x l20 some some some some one n": false, "map x c101 x": true, "map x c101 some x": false, "map x c101 size x": true, "map x l17 form a 1 b 1 c 1 d 1 e 1 f 1 end": true, "map x l17 form a 1 b 1 c 1 d 1 e 1 f 1 g 1 end": false, "map x l1 v5": true, "map x l1 v6": false, "map x k v6": true, "map x l1 p119": true, "map x l1 p120": false, "map x k p120": true, "map x b6 x": true, "map x b6 some x": false, "map x b120 x": true, "map x b120 some x": false, "map x l20 t60": true,
		"keep x l20 yes": true, "keep x b6 yes": true, "keep x b120 yes": true, "keep x c101 yes": true, "keep x c101 less 3 size x": true,
		// What is made by the others is ok, as their kids are.
		"p120": true, "v6": true, "let x p120 x": true, "let x v6 x": true, "if yes p120 v6": true, "get a o6": true, "cut b o6": true, "cut abcdea00 p120": true, "at b6 0": true, "at b120 0": true, "part b6 0 1": true, "part t60 0 60": true, "part l20 0 20": true, "else m6 n": true, "else m120 n": true, "case x m6 x n": true, "case x m120 x n": true, "fold a x l20 p120 a": true, "fold a x l20 v6 a": true, "none ?????num": true, "read t1": true,
		// It stops where it is made, even if less of it is wanted.
		"size one v6": false, "size join l20 l1": false, "size join t60 t1": false, "get a put a q v6": false, "cut zz put zz p120 n": false, "at join l20 l20 0": false, "part join t60 t60 0 1": false, "else some v6 n": false, "case x some p120 1 2": false, "let x some v6 1": false, "same some v6 some v6": false, "fold a x l20 n get a form a v6 end": false, "keep x one v6 no": false, "fold a x l10 n some a": false, "fold a x l1 n some a": true, "fold a x map y part l20 0 5 y n some a": true, "fold a x map y part l20 0 6 y n some a": false,
	} {
		n := valueOf(s)
		got := meaning(bigBound(), n)
		if said := meaningAsSaid(bigBound(), n); got != said || isOk != (got[0] != '!') || !isOk && got != "!4" {
			t.Errorf("%s: %s, not %s", s, got, said)
		}
	}
}

// A form of so many names.
func TestRunBigForms(t *testing.T) {
	for names := 0; names <= 199; names++ {
		n := formNode(names, numNode(1))
		x, code := impl.LiftEval(nil, n)
		if names <= 119 && (code != 0 || len(x.Names) != names || !slices.Equal(x.Names, n.Names)) || names > 119 && (code != impl.StopBig || !isNothing(x)) {
			t.Errorf("%d names: %d", names, code)
		}
	}
}

// Lists and texts of each size, one behind the other.
func TestRunJoinEdges(t *testing.T) {
	for a := 0; a <= 20; a++ {
		for b := 0; b <= 20; b++ {
			vars := []impl.LiftBound{{Name: "a", Tree: list(times(a, num(1))...)}, {Name: "b", Tree: list(times(b, num(2))...)}, {Name: "s", Tree: text(strings.Repeat("s", 3*a))}, {Name: "t", Tree: text(strings.Repeat("t", 3*b))}}
			lists, texts := "!4", "!4"
			if a+b <= 20 {
				lists = impl.TreeWrite(list(append(times(a, num(1)), times(b, num(2))...)...))
				texts = `"` + strings.Repeat("sss", a) + strings.Repeat("ttt", b) + `"`
			}
			mustMean(t, vars, "join a b", lists)
			mustMean(t, vars, "join s t", texts)
		}
	}
}

// Where a tree that is not ok would be made behind a kid that stops, the kid counts; what is made of each element is put together behind the last.
func TestRunBigBehindOthers(t *testing.T) {
	for s, answer := range map[string]string{
		"form a v6 b div 1 0 end": "!2", "form a some v6 b div 1 0 end": "!4", "form a div 1 0 b some v6 end": "!2", "put a q some v6": "!4", "put zz p120 div 1 0": "!2", "put zz some p120 div 1 0": "!4", "join l20 join l1 zzz": "!6", "join l20 n": "!6", "join join l20 l1 n": "!4", "join t60 l1": "!6",
		"map x l20 if less 0 size one v5 v6 zzz": "!4", "map x join l19 one 2 if same x 2 div 1 0 v6": "!2", "map x join one 2 l19 if same x 2 some v6 div 1 0": "!4", "map x join l1 one 2 if same x 2 zzz p120": "!6", "one div 1 0": "!2", "some zzz": "!6",
	} {
		mustMean(t, bigBound(), s, answer)
	}
}

// A cost of just LiftMaxCost, and one more, of a value and of an action; how much of it is done does not matter.
func TestRunCostBounds(t *testing.T) {
	vars := []impl.LiftBound{{Name: "l", Tree: list(times(20, num(1))...)}}
	for _, cost := range []int{39990, 39999, 40000, 40001, 40002, 40010} {
		n := costNode(cost)
		if got, said := meaning(vars, n), meaningAsSaid(vars, n); impl.LiftCost(n) != min(cost, 40001) || got != said || (got == "!6") != (cost > 40000) {
			t.Errorf("cost %d: %s, not %s", cost, got, said)
		}
		if got := meaning(nil, node(impl.LiftIf, "", flagNode(1), numNode(5), costNode(cost-3))); (got == "5") != (cost <= 40000) || got != "5" && got != "!6" {
			t.Errorf("cost %d, which is not done: %s", cost, got)
		}
		done := node(impl.LiftChoose, "", flagNode(1), emitNode(node(impl.LiftForm, "")), node(impl.LiftTake, "x", costNode(cost-6), dropNode()))
		if got := doing(done, form("")); impl.LiftCost(done) != min(cost, 40001) || (got == "{}") != (cost <= 40000) || got != "{}" && got != "!6" {
			t.Errorf("cost %d in an action: %s", cost, got)
		}
		all := node(impl.LiftTake, "l", valueOf("get l old"), emitNode(node(impl.LiftForm, "a", costNode(cost-5))))
		if got, said := doing(all, form("l", list(times(20, num(1))...))), doingAsSaid(all, form("l", list(times(20, num(1))...))); impl.LiftCost(all) != min(cost, 40001) || got != said || (got == "!6") != (cost > 40000) {
			t.Errorf("cost %d in an action: %s, not %s", cost, got, said)
		}
	}
	for _, s := range []string{"if yes 1 ", "and no ", "else some 1 ", "fold a x empty num 1 "} {
		mustMean(t, vars, s+"map a l map b l map c l map d l 1", "!6")
	}
	mustMean(t, boundTo("l=[]"), "map a l map b l map c l map d l 1", "!6")
	mustMean(t, nil, "map a l map b l map c l map d l 1", "!6")
}

// A fan of just LiftMaxFan, all of which are made, and one more, none of which is.
func TestRunFanBounds(t *testing.T) {
	full := form("l", list(times(20, num(1))...))
	for fan := 381; fan <= 420; fan++ {
		n := node(impl.LiftBoth, "", node(impl.LiftEach, "x", valueOf("get l old"), manyEmits(19)), manyEmits(fan-380))
		done := impl.LiftRun(n, full)
		switch {
		case fan <= 400 && (done.Code != 0 || len(done.Outs) != fan):
			t.Errorf("fan %d: %d, %d events", fan, done.Code, len(done.Outs))
		case fan > 400 && (done.Code != impl.StopBroken || len(done.Outs) != 0):
			t.Errorf("fan %d: %d, %d events", fan, done.Code, len(done.Outs))
		}
		// It counts how many there may be, not how many there are.
		none := node(impl.LiftChoose, "", flagNode(1), dropNode(), n)
		for _, old := range []impl.Tree{full, form("l", list())} {
			if got := doing(none, old); (got == "drop") != (fan <= 400) || got != "drop" && got != "!6" {
				t.Errorf("fan %d, none made: %s", fan, got)
			}
		}
	}
	n := actionOf("each x get l old each y get l old emit form a x b y end")
	numbers := list()
	for i := range 20 {
		numbers.Kids = append(numbers.Kids, num(i))
	}
	done := impl.LiftRun(n, form("l", numbers))
	if done.Code != 0 || len(done.Outs) != 400 {
		t.Fatalf("%d, %d events", done.Code, len(done.Outs))
	}
	for i, out := range done.Outs {
		if got, want := eventText(out), "{a:"+strconv.Itoa(i/20)+",b:"+strconv.Itoa(i%20)+"}"; got != want {
			t.Errorf("%d: %s, not %s", i, got, want)
		}
	}
}
