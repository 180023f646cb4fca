package tests

import (
	"strconv"
	"strings"
	"testing"

	"loop.example/tealang/impl"
)

// stoppers are values that stop, with their codes.
func stoppers() map[string]int {
	return map[string]int{
		"add 999999999 1": 1, "div 1 0": 2, "at k 0": 3, "part s 2 1": 3, "join l20 l20": 4, "zzz": 6, "get c o": 6, `add 1 "a"`: 6, "not 1": 6, "map x l div x 0": 2, "if yes zzz 1": 6,
	}
}

func lazyBound() []impl.LiftBound {
	return append(someBound(), impl.LiftBound{Name: "l20", Tree: list(times(20, num(1))...)})
}

// Kids in the place that is not meant are not done; in the one that is meant they stop. `V` is the kid that would stop.
func TestRunKidsThatAreNotMeant(t *testing.T) {
	notDone := map[string]string{
		"and no V": "no", "and g V": "no", "or yes V": "yes", "or f V": "yes", "if yes 1 V": "1", "if no V 2": "2", "if f l V": "[3,-4,5]", "if g V l": "[3,-4,5]",
		"else m V": "4", "else some w V": "~", "case x m x V": "4", "case x w V 2": "2", "case x m 1 V": "1", "case x w V w": "~",
		"map x k V": "[]", "keep x k V": "[]", "fold a x k 9 V": "9", "fold a x k 9 add a V": "9",
		"and and no V V": "no", "or or yes V V": "yes", "if and no V V 3": "3", "not or yes V": "no", "if or yes V 1 V": "1", "else else some m V V": "4", "case x else some m V x V": "4", "map x l if yes x V": "[3,-4,5]", "keep x l or yes V": "[3,-4,5]", "fold a x l 0 if yes add a x V": "4", "let x 1 if yes x V": "1", "map x l map y k V": "[[],[],[]]",
		"if no div V 0 2": "2", "and no same 1 V": "no", "form a if yes 1 V b or yes V end": "{a:1,b:yes}",
	}
	done := []string{
		"and yes V", "and V yes", "and V no", "or no V", "or V yes", "or V no", "if V 1 2", "if yes V 1", "if no 1 V", "else w V", "else V 1", "case x V 1 2", "case x m V 1", "case x w 1 V",
		"map x l V", "map x V 1", "keep x l V", "keep x V yes", "fold a x V 0 0", "fold a x l V 0", "fold a x k V 0", "fold a x l 0 V", "let x V 1", "let x 1 V", "same V 1", "same 1 V", "less V 1", "put a o V", "put a V 1", "form a 1 b V end", "at l V", "at V 0", "part l V 1", "part l 0 V", "some V", "one V",
	}
	for v, code := range stoppers() {
		for s, answer := range notDone {
			mustMean(t, lazyBound(), strings.ReplaceAll(s, "V", v), answer)
		}
		for _, s := range done {
			mustMean(t, lazyBound(), strings.ReplaceAll(s, "V", v), "!"+strconv.Itoa(code))
		}
	}
}

// Only the element that stops, stops: those ahead of it were done in order, those behind it are not.
func TestRunListsInOrder(t *testing.T) {
	vars := boundTo("l=[0,1,2,3]", `u=[1,"a",0]`)
	for s, answer := range map[string]string{
		"map x l if same x 1 div 1 0 if same x 2 zzz x": "!2", "map x l if same x 2 div 1 0 if same x 1 zzz x": "!6",
		"keep x l if same x 1 div 1 0 if same x 2 zzz yes": "!2", "keep x l if same x 2 same 1 div 1 0 if same x 1 1 yes": "!6", "keep x l if same x 3 1 same 1 div 1 0": "!2",
		"fold a x l 0 if same x 1 div 1 0 if same x 2 zzz x": "!2", "fold a x l 0 if same x 2 div 1 0 if same x 1 zzz x": "!6",
		"map x u div 1 x": "!6", "map x part u 2 3 div 1 x": "!2", "map x join part u 2 3 u div 1 x": "!2", "fold a x u 0 add a x": "!6", "fold a x l zzz div 1 0": "!6", "fold a x l div 1 0 zzz": "!2", "fold a x u zzz 1": "!6", "fold a x 1 zzz 1": "!6",
		"fold a x l 5 div a x": "!2", "fold a x l 5 div x a": "!2", "fold a x l 1 add mul a 10 x": "10123", "map x l fold a y l x add a y": "[6,7,8,9]", "keep x l less 1 fold a y l x sub a y": "[]", "keep x l less -5 fold a y l x sub a y": "[2,3]",
	} {
		mustMean(t, vars, s, answer)
	}
}

// The action that is not chosen is not done, nor what is behind one that stops; of an empty list nothing is done.
func TestRunActionsThatAreNotDone(t *testing.T) {
	const old = "{k:[],l:[3,-4,5],n:7}"
	stops := map[string]string{"fail 42": "!5 42", "fail 0": "!5", "emit 5": "!6", "emit zzz": "!6", "take x div 1 0 drop": "!2", "choose 1 drop drop": "!6", "each x 1 drop": "!6", "send t 1 at get k old 0": "!3", "emit form a add 999999999 1 end": "!1", "take x some some some some some some 1 drop": "!4"}
	for a, stop := range stops {
		for s, answer := range map[string]string{
			"choose yes drop A": "drop", "choose no A drop": "drop", "choose yes emit form end A": "{}", "choose no A emit form end": "{}", "each x get k old A": "drop", "both emit form end each x get k old A": "{}",
			"choose yes A drop": stop, "choose no drop A": stop, "both A drop": stop, "both drop A": stop, "both emit form end A": stop, "both A emit form end": stop, "both A fail 9": stop, "both A emit zzz": stop, "take y 1 A": stop, "each y get l old A": stop,
			"each y get l old choose less y 0 A emit form end": stop, "each y get l old both emit form end choose less y 5 drop A": stop, "choose zzz A A": "!6", "take y zzz A": "!6", "each y zzz A": "!6", "choose div 1 0 A A": "!2", "take y div 1 0 A": "!2", "each y at get k old 0 A": "!3",
		} {
			mustDo(t, old, strings.ReplaceAll(s, "A", a), answer)
		}
	}
}
