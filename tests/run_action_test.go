package tests

import (
	"strconv"
	"strings"
	"testing"

	"loop.example/tealang/impl"
)

const ranOf = `{k:[],l:[3,-4,5],m:~,n:7,o:{a:1},s:"abc",y:yes}`

// What each action makes.
func TestRunActions(t *testing.T) {
	ops := map[int]bool{}
	for s, answer := range map[string]string{
		"drop": "drop", "fail 7": "!5 7", "fail 0": "!5", "fail 99": "!5 99",
		"emit form end": "{}", "emit old": ranOf, "emit get o old": "{a:1}", "emit form a get n old end": "{a:7}", "emit put b get o old 2": "{a:1,b:2}", "emit cut a get o old": "{}", "emit if get y old get o old old": "{a:1}", "emit let x get o old x": "{a:1}",
		"send paid 3 form end": "paid@3{}", "send t 1 get o old": "t@1{a:1}", "send t 12 get o old": "t@12{a:1}", "send abcdefg9 5 form end": "abcdefg9@5{}", "send old 1 form end": "old@1{}", "send add 1 form end": "add@1{}", "send end 2 form end": "end@2{}",
		"emit 5": "!6", "emit get l old": "!6", "emit some get o old": "!6", "emit one old": "!6", `emit "a"`: "!6", "emit yes": "!6", "emit none {}": "!6", "send t 1 5": "!6", "send t 1 some form end": "!6", "send t 1 zzz": "!6",
		"both drop drop": "drop", "both emit form end drop": "{}", "both drop emit form end": "{}", "both emit form a 1 end emit form a 2 end": "{a:1} {a:2}", "both send t 1 form end emit form end": "t@1{} {}", "both both emit form a 1 end emit form a 2 end both emit form a 3 end emit form a 4 end": "{a:1} {a:2} {a:3} {a:4}",
		"both fail 3 fail 4": "!5 3", "both emit form end fail 4": "!5 4", "both fail 4 emit form end": "!5 4", "both emit 5 fail 4": "!6", "both fail 4 emit 5": "!5 4", "both drop fail 4": "!5 4", "both both emit form end emit form end both emit form end fail 9": "!5 9",
		"choose yes emit form a 1 end emit form a 2 end": "{a:1}", "choose no emit form a 1 end emit form a 2 end": "{a:2}", "choose less get n old 0 fail 1 emit form end": "{}", "choose less 0 get n old fail 1 emit form end": "!5 1", "choose get n old drop drop": "!6", "choose get m old drop drop": "!6",
		"take x 1 emit form a x end": "{a:1}", "take x get l old emit form a size x end": "{a:3}", "take x 1 drop": "drop", "take x 1 fail 2": "!5 2", "take x div 1 0 drop": "!2",
		"each x get l old emit form a x end": "{a:3} {a:-4} {a:5}", "each x get k old emit form a x end": "drop", "each x get k old fail 1": "drop", "each x get l old drop": "drop", "each x get l old fail 1": "!5 1", "each x get s old drop": "!6", "each x get m old drop": "!6", "each x old drop": "!6",
		"each x get l old choose less x 0 drop emit form a x end": "{a:3} {a:5}", "each x get l old choose less x 0 fail 8 emit form a x end": "!5 8", "each x get l old choose less x 0 emit x emit form a x end": "!6", "each x get l old emit form a div 7 sub x 5 end": "!2", "each x get l old emit form a at get l old sub x 3 end": "!3", "each x get l old emit form a mul x 333333333 end": "!1",
		"each x get l old both emit form a x end choose less x 0 send paid 3 form end drop":                                               "{a:3} {a:-4} paid@3{} {a:5}",
		"both each x get l old emit form a x end each x get l old send t 1 form a x end":                                                  "{a:3} {a:-4} {a:5} t@1{a:3} t@1{a:-4} t@1{a:5}",
		"each x get l old both emit form a x end send t 1 form a x end":                                                                   "{a:3} t@1{a:3} {a:-4} t@1{a:-4} {a:5} t@1{a:5}",
		"each x get l old take y mul x 2 choose less y 0 both emit form y y end emit form x x end choose less 8 y emit form z y end drop": "{y:-8} {x:-4} {z:10}",
		"each x part get l old 0 2 each y part get l old 1 3 emit form x x y y end":                                                       "{x:3,y:-4} {x:3,y:5} {x:-4,y:-4} {x:-4,y:5}",
		"take x get l old each y x take x y each z one add x 1 both emit form x x z z end drop":                                           "{x:3,z:4} {x:-4,z:-3} {x:5,z:6}",
		"each x one 1 each x one 2 each x one 3 emit form a x end":                                                                        "!6",
		"each x one 1 take x one 2 each x x emit form a x end":                                                                            "{a:2}",
	} {
		mustDo(t, ranOf, s, answer)
		if said := doingAsSaid(actionOf(s), treeOf(ranOf)); said != answer {
			t.Errorf("%s: the cases themselves have %s and %s", s, said, answer)
		}
		ops[actionOf(s).Op] = true
	}
	if len(ops) != impl.LiftEach-impl.LiftFold {
		t.Errorf("%d ops", len(ops))
	}
}

// Each number of `fail` is told as Why, without any event that was made ahead of it; no other code has one.
func TestRunFail(t *testing.T) {
	for why := 0; why <= impl.LiftMaxWhy; why++ {
		s := "fail " + strconv.Itoa(why)
		for _, around := range []string{"", "both emit old ", "take x 1 ", "each x get l old ", "choose less 1 2 ", "each x get l old both send t 1 old "} {
			rest := map[string]string{"choose less 1 2 ": " drop"}[around]
			done := impl.LiftRun(actionOf(around+s+rest), treeOf(ranOf))
			if done.Code != impl.StopRefused || done.Why != why || len(done.Outs) != 0 {
				t.Errorf("%s%s: %v", around, s, done)
			}
		}
	}
	for s, code := range map[string]int{"both emit form a add 999999999 1 end fail 9": 1, "both take x div 1 0 drop fail 9": 2, "both take x at get k old 0 drop fail 9": 3, "both take x join show 999999999 join show 999999999 join show 999999999 join show 999999999 join show 999999999 join show 999999999 show 9999999 drop fail 9": 4, "both emit 1 fail 9": 6} {
		if done := impl.LiftRun(actionOf(s), treeOf(ranOf)); done.Code != code || done.Why != 0 || len(done.Outs) != 0 {
			t.Errorf("%s: %v", s, done)
		}
	}
}

// A stop behind some events that were made leaves none of them.
func TestRunStopsBehindEvents(t *testing.T) {
	for stop, answer := range map[string]string{"fail 3": "!5 3", "emit 1": "!6", "emit zzz": "!6", "take z div 1 0 drop": "!2", "emit form a at get k old 0 end": "!3", "emit form a add 999999999 1 end": "!1", "emit form a some some some some some some 1 end": "!4"} {
		for _, s := range []string{
			"both emit old STOP", "both both emit old emit old STOP", "both emit old both emit old STOP", "both each x get l old emit old STOP", "each x get l old both emit old choose less x 4 drop STOP", "each x get l old choose same x 5 STOP emit old",
			"take x 1 both send t 1 old STOP", "each x get l old both send t 1 form end take y x choose same y 5 STOP drop", "both emit old each x get l old take y x STOP", "both each x get l old emit form a x end choose yes STOP emit old",
		} {
			mustDo(t, ranOf, strings.ReplaceAll(s, "STOP", stop), answer)
		}
	}
}

// The document's example.
func TestRunTheExample(t *testing.T) {
	const s = "choose less get n old 0 fail 7 each x get items old emit form cost div get n old size get items old id x tag none text end"
	mustDo(t, "{items:[4,9],n:-7}", s, "!5 7")
	mustDo(t, "{items:[4,9],n:7}", s, "{cost:3,id:4,tag:~} {cost:3,id:9,tag:~}")
	mustDo(t, "{items:[],n:7}", s, "drop")
	mustDo(t, "{items:[4,9],n:0}", s, "{cost:0,id:4,tag:~} {cost:0,id:9,tag:~}")
	mustDo(t, "{n:7}", s, "!6")
	mustDo(t, "{items:[4,9]}", s, "!6")
}
