package tests

import (
	"slices"
	"testing"

	"loop.example/tealang/impl"
)

// What the kids of actions must be, with one that is so and one that is not, and its place.
func TestCheckActions(t *testing.T) {
	const from = "{f:flag,l:[num],m:?num,n:num,s:text}"
	sinks := sinksOf("{n:num}", "paid 2 {s:text}", "paid 3 {}", "end 12 {}", "add 1 {}")
	for s, answer := range map[string]string{
		"drop": "0@0", "fail 0": "0@0", "fail 99": "0@0", "both drop fail 1": "0@0",
		"choose get f old drop drop": "0@0", "choose yes drop drop": "0@0", "choose less 1 get n old drop fail 1": "0@0",
		"choose 1 drop drop": "6@1", "choose get n old drop drop": "6@1", "choose get m old drop drop": "6@1", "choose old drop drop": "6@1", "choose some yes drop drop": "6@1", "choose one yes drop drop": "6@1",
		"each x get l old drop": "0@0", "each x one old drop": "0@0", "each x empty num drop": "0@0",
		"each x old drop": "6@1", "each x get s old drop": "6@1", "each x get m old drop": "6@1", "each x get n old drop": "6@1", "each x some get l old drop": "6@1",
		"take x 1 drop": "0@0", "take x old drop": "0@0", "take x get m old drop": "0@0", "take x get l old drop": "0@0",
		"emit form n 1 end": "0@0", "emit cut s put s form n 1 end 1": "0@0", "emit form end": "6@1", "emit form n 1 z 1 end": "6@1", `emit form n "1" end`: "6@1", "emit form m 1 end": "6@1", "emit form n some 1 end": "6@1",
		"emit 1": "6@1", "emit get n old": "6@1", "emit some form n 1 end": "6@1", "emit one form n 1 end": "6@1", "emit form s get s old end": "6@1",
		"send paid 2 form s get s old end": "0@0", "send paid 3 form end": "0@0", "send end 12 form end": "0@0", "send add 1 form end": "0@0",
		"send paid 2 form end": "6@1", "send paid 3 form s get s old end": "6@1", "send paid 2 form n 1 end": "6@1", "send paid 2 get s old": "6@1",
		"send paid 1 form end": "5@0", "send paid 4 form end": "5@0", "send pai 2 form end": "5@0", "send paid2 2 form end": "5@0", "send add 2 form end": "5@0", "send emit 1 form n 1 end": "5@0",
		"both emit form n 1 end send paid 3 form end": "0@0", "both emit form n 1 end send paid 3 form n 1 end": "6@5", "both emit form end send paid 3 form n 1 end": "6@2",
		"choose yes emit form end drop": "6@3", "choose yes drop emit form end": "6@4", "take x 1 emit form end": "6@3", "each x get l old emit form end": "6@4",
		"both drop both drop both drop choose 1 drop drop": "6@7",
	} {
		mustCheck(t, from, sinks, s, answer)
	}
}

// `emit` or `send` without a sink is told ahead of what is wrong in its kid, and behind what is ahead of it.
func TestCheckNoSink(t *testing.T) {
	const from = "{l:[num],n:num}"
	for s, answers := range map[string][3]string{ // without sinks, with that of emit alone, with that of send alone
		"emit form end":                           {"5@0", "0@0", "5@0"},
		"send t 1 form end":                       {"5@0", "5@0", "0@0"},
		"emit x":                                  {"5@0", "5@1", "5@0"},
		"emit add x 1":                            {"5@0", "5@2", "5@0"},
		"emit get z old":                          {"5@0", "8@1", "5@0"},
		"emit 1":                                  {"5@0", "6@1", "5@0"},
		"emit some some some some some some 1":    {"5@0", "7@1", "5@0"},
		"send t 1 x":                              {"5@0", "5@0", "5@1"},
		"send t 1 add yes x":                      {"5@0", "5@0", "6@2"},
		"send t 1 get z old":                      {"5@0", "5@0", "8@1"},
		"send t 2 x":                              {"5@0", "5@0", "5@0"},
		"send u 1 add yes x":                      {"5@0", "5@0", "5@0"},
		"both drop emit x":                        {"5@2", "5@3", "5@2"},
		"both emit x emit x":                      {"5@1", "5@2", "5@1"},
		"both take x y drop emit x":               {"5@2", "5@2", "5@2"},
		"choose 1 emit x emit x":                  {"6@1", "6@1", "6@1"},
		"choose yes drop send t 1 x":              {"5@3", "5@3", "5@4"},
		"choose x emit 1 drop":                    {"5@1", "5@1", "5@1"},
		"take x 1 emit x":                         {"5@2", "6@3", "5@2"},
		"take x get z old emit x":                 {"8@1", "8@1", "8@1"},
		"each x get n old emit x":                 {"6@1", "6@1", "6@1"},
		"each x get l old emit x":                 {"5@3", "6@4", "5@3"},
		"both emit form end send t 1 form end":    {"5@1", "5@3", "5@1"},
		"both send t 1 form end emit form end":    {"5@1", "5@1", "5@3"},
		"both emit form a 1 end send t 1 old":     {"5@1", "6@2", "5@1"},
		"both send t 1 old emit form a 1 b x end": {"5@1", "5@1", "6@2"},
	} {
		for i, sinks := range [][]impl.LiftSink{nil, sinksOf("{}"), sinksOf("t 1 {}")} {
			mustCheck(t, from, sinks, s, answers[i])
		}
	}
}

// Of two sinks with the same name and version the first counts.
func TestCheckSinksAlike(t *testing.T) {
	sinks := sinksOf("{n:num}", "t 1 {}", "{}", "t 1 {n:num}", "t 2 {n:num}", "u 1 {n:num}", "{s:text}", "t 1 {}")
	for s, answers := range map[string][2]string{ // in this order, and in the other one
		"emit form n 1 end":        {"0@0", "6@1"},
		"emit form end":            {"6@1", "6@1"},
		`emit form s "a" end`:      {"6@1", "0@0"},
		"send t 1 form end":        {"0@0", "0@0"},
		"send t 1 form n 1 end":    {"6@1", "6@1"},
		"send t 2 form n 1 end":    {"0@0", "0@0"},
		"send u 1 form n 1 end":    {"0@0", "0@0"},
		"send u 2 form n 1 end":    {"5@0", "5@0"},
		"send t 1 form n \"\" end": {"6@1", "6@1"},
	} {
		other := slices.Clone(sinks)
		slices.Reverse(other)
		mustCheck(t, "{}", sinks, s, answers[0])
		mustCheck(t, "{}", other, s, answers[1])
	}
	mustCheck(t, "{}", sinksOf("t 1 {n:num}", "t 1 {}"), "send t 1 form end", "6@1")
	mustCheck(t, "{}", sinksOf("t 1 {}", "t 1 {n:num}"), "send t 1 form end", "0@0")
}

// Costs and fans are told behind all faults, costs first; what is not ok ahead of all.
func TestCheckCostlyAndWide(t *testing.T) {
	const from = "{l:[num]}"
	const four = "each x get l old each y get l old each z get l old each u get l old "
	const two = "each x get l old each y get l old "
	sinks := sinksOf("{}")
	for s, answer := range map[string]string{
		four + "drop":          "9@0",
		four + "emit form end": "9@0",
		four + "emit v":        "5@13",
		four + "emit x":        "6@13",
		"both " + four + "drop choose 1 drop drop":                              "6@15",
		"both " + four + "emit form end emit get z old":                         "8@16",
		"both " + two + "emit form end emit form end":                           "10@0",
		"both " + two + "emit form end emit x":                                  "5@10",
		"both " + two + "emit form end send t 1 form end":                       "5@9",
		"both " + two + "emit form end drop":                                    "0@0",
		"both " + two + "emit form end " + four + "drop":                        "9@0",
		"both emit form end both " + two + "emit form end " + four + "drop":     "9@0",
		"choose yes " + two + "emit form end " + two + "emit form end":          "0@0",
		"take x one 1 each y x each z x both emit form end emit form end":       "10@0",
		"take x one 1 each y x each z x choose yes emit form end emit form end": "0@0",
	} {
		mustCheck(t, from, sinks, s, answer)
		n := actionOf(s)
		if got := impl.LiftCheck(numKind(), sinks, n); told(got) != "6@0" {
			t.Errorf("%s: %v", s, got)
		}
		if got := impl.LiftCheck(kindOf(from), sinks, emitNode(n)); told(got) != "2@0" {
			t.Errorf("%s: %v", s, got)
		}
	}
}

// The document's example.
func TestCheckTheExample(t *testing.T) {
	const s = "choose less get n old 0 fail 7 each x get items old emit form cost div get n old size get items old id x tag none text end"
	mustCheck(t, "{items:[num],n:num}", sinksOf("{cost:num,id:num,tag:?text}"), s, "0@0")
	mustCheck(t, "{items:[num],n:num}", sinksOf("{cost:num,id:num,tag:?num}"), s, "6@10")
	mustCheck(t, "{items:[num],n:num}", nil, s, "5@9")
	mustCheck(t, "{items:[text],n:num}", sinksOf("{cost:num,id:num,tag:?text}"), s, "6@10")
	mustCheck(t, "{items:num,n:num}", sinksOf("{cost:num,id:num,tag:?text}"), s, "6@7")
	mustCheck(t, "{n:num}", sinksOf("{cost:num,id:num,tag:?text}"), s, "8@7")
	mustCheck(t, "{items:[num],n:text}", sinksOf("{cost:num,id:num,tag:?text}"), s, "6@4")
}
