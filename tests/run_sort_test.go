package tests

import (
	"slices"
	"strconv"
	"strings"
	"testing"

	"loop.example/tealang/impl"
)

// wantedSorts is what chapter 12 wants of the kids of an op, as chapter 13 takes it: the first letters of sorts, a place each, of those
// kids that are done in any case; `*` is any, `=` the sort of the first.
func wantedSorts() map[string][]string {
	return map[string][]string{
		"some": {"*"}, "one": {"*"}, "add": {"n", "n"}, "sub": {"n", "n"}, "mul": {"n", "n"}, "div": {"n", "n"}, "rem": {"n", "n"},
		"less": {"nt", "="}, "same": {"*", "*"}, "and": {"f"}, "or": {"f"}, "not": {"f"}, "if": {"f"}, "let x": {"*"}, "get a": {"o"}, "put a": {"o", "*"}, "cut a": {"o"},
		"at": {"l", "n"}, "size": {"lt"}, "join": {"lt", "="}, "part": {"lt", "n", "n"}, "show": {"n"}, "read": {"t"}, "else": {"m"}, "case x": {"m"}, "map x": {"l"}, "keep x": {"l"}, "fold x y": {"l", "*"},
	}
}

// A kid is of one of the sorts, by its letter, or stops with a code.
type someKid struct {
	text string
	sort string
	code int
}

func someKids() []someKid {
	return []someKid{
		{"1", "n", 0}, {`"a"`, "t", 0}, {"yes", "f", 0}, {"one 1", "l", 0}, {"form a 1 end", "o", 0}, {"some 1", "m", 0},
		{"add 999999999 1", "", 1}, {"div 1 0", "", 2}, {"at empty num 0", "", 3}, {"some v6", "", 4}, {"zzz", "", 6},
	}
}

// allOfKids are all ways to take so many.
func allOfKids(size int) [][]someKid {
	out := [][]someKid{nil}
	for range size {
		var longer [][]someKid
		for _, kids := range out {
			for _, kid := range someKids() {
				longer = append(longer, append(slices.Clone(kids), kid))
			}
		}
		out = longer
	}
	return out
}

// firstStop is the code of the first kid that stops, or is of another sort; 0, if there is none.
func firstStop(wants []string, kids []someKid) int {
	for i, want := range wants {
		kid := kids[i]
		switch {
		case kid.code != 0:
			return kid.code
		case want == "=" && kid.sort != kids[0].sort:
			return impl.StopBroken
		case want != "=" && want != "*" && !strings.Contains(want, kid.sort):
			return impl.StopBroken
		}
	}
	return 0
}

// Each op with kids of all sorts and with kids that stop, in all places: the first one counts, be it of another sort or one that stops.
func TestRunSortsOfKids(t *testing.T) {
	vars := []impl.LiftBound{{Name: "v6", Tree: nested(6)}}
	stopped, meant := 0, 0
	for word, wants := range wantedSorts() {
		size := strings.Count(opTable()[slices.Index(opWords(), strings.Fields(word)[0])], "V")
		for _, kids := range allOfKids(size) {
			s := word
			for _, kid := range kids {
				s += " " + kid.text
			}
			got := meaning(vars, valueOf(s))
			if code := firstStop(wants, kids); code != 0 {
				stopped++
				if got != "!"+strconv.Itoa(code) {
					t.Errorf("%s: %s, not !%d", s, got, code)
				}
			} else if said := meaningAsSaid(vars, valueOf(s)); got != said {
				t.Errorf("%s: %s, not %s", s, got, said)
			} else if got[0] != '!' {
				meant++
			}
		}
	}
	if len(wantedSorts()) != impl.LiftFold-impl.LiftEmpty-1 || stopped < 3000 || meant < 300 {
		t.Errorf("%d ops, %d stopped, %d meant", len(wantedSorts()), stopped, meant)
	}
}

// The kids of a form: the first that stops counts, and any sort will do.
func TestRunSortsOfForms(t *testing.T) {
	vars := []impl.LiftBound{{Name: "v6", Tree: nested(6)}}
	for _, kids := range allOfKids(3) {
		s := "form a " + kids[0].text + " b " + kids[1].text + " c " + kids[2].text + " end"
		got := meaning(vars, valueOf(s))
		if code := firstStop([]string{"*", "*", "*"}, kids); code != 0 && got != "!"+strconv.Itoa(code) || code == 0 && got[0] != '{' {
			t.Errorf("%s: %s, not !%d", s, got, code)
		}
	}
}

// The kids of actions that are values, of all sorts and such that stop.
func TestRunSortsOfActions(t *testing.T) {
	for word, want := range map[string]string{"emit V": "o", "send t 1 V": "o", "choose V drop drop": "f", "take x V drop": "*", "each x V drop": "l"} {
		for _, kid := range someKids() {
			s := strings.ReplaceAll(word, "V", kid.text)
			got := doing(actionOf(s), form("v6", nested(5)))
			if kid.text == "some v6" {
				got = doing(actionOf(strings.ReplaceAll(word, "V", "some some get v6 old")), form("v6", nested(5)))
			}
			code := firstStop([]string{want}, []someKid{kid})
			if code != 0 && got != "!"+strconv.Itoa(code) || code == 0 && got[0] == '!' {
				t.Errorf("%s: %s, not !%d", s, got, code)
			}
		}
	}
}

// What is asked of the kids that are not done in any case, where they are done: the second of `and` and `or` must be a flag, that of `keep` too; of `if`, `case`, `else` and `fold` nothing is asked.
func TestRunSortsOfLaterKids(t *testing.T) {
	for _, kid := range someKids() {
		text := kid.text
		if kid.code == 4 {
			text = "join l20 l20"
		}
		vars := []impl.LiftBound{{Name: "l20", Tree: list(times(20, num(1))...)}}
		meant := meaning(vars, valueOf(text))
		for s, answer := range map[string]string{
			"if yes V 1": meant, "if no 1 V": meant, "case x some 1 V 1": meant, "case x none num 1 V": meant, "else none num V": meant, "fold a x one 1 0 V": meant, "let x 1 V": meant,
		} {
			if got := meaning(vars, valueOf(strings.ReplaceAll(s, "V", text))); got != answer {
				t.Errorf("%s of %s: %s, not %s", s, text, got, answer)
			}
		}
		want := "yes"
		if code := firstStop([]string{"f"}, []someKid{kid}); code != 0 {
			want = "!" + strconv.Itoa(code)
		}
		for _, s := range []string{"and yes V", "or no V", "same one 1 keep x one 1 V"} {
			if got := meaning(vars, valueOf(strings.ReplaceAll(s, "V", text))); got != want {
				t.Errorf("%s of %s: %s, not %s", s, text, got, want)
			}
		}
	}
}
