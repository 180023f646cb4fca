package tests

import (
	"fmt"
	"strings"
	"testing"

	"loop.example/tealang/impl"
)

// wrongTrees are each wrong in one thing alone.
func wrongTrees() map[string]impl.Tree {
	a, one := []string{"a"}, []impl.Tree{num(1)}
	fours := list(times(20, list(times(4, num(1))...))...)
	wrong := map[string]impl.Tree{
		"nothing":                       {},
		"sort below 1":                  {Sort: -1},
		"sort beyond 6":                 {Sort: 7},
		"number with a text":            {Sort: impl.TreeNum, Text: "1"},
		"number with names":             {Sort: impl.TreeNum, Names: a},
		"number with kids":              {Sort: impl.TreeNum, Kids: one},
		"number too great":              num(1000000000),
		"number too small":              num(-1000000000),
		"number far too great":          num(int(^uint(0) >> 1)),
		"number far too small":          num(-int(^uint(0)>>1) - 1),
		"text with a number":            {Sort: impl.TreeText, Num: 1},
		"text with names":               {Sort: impl.TreeText, Names: a},
		"text with kids":                {Sort: impl.TreeText, Kids: one},
		"text too long":                 text(strings.Repeat("x", 61)),
		"text with a quote":             text(`a"b`),
		"text with a newline":           text("a\nb"),
		"text with byte 31":             text("\x1f"),
		"text with byte 127":            text("\x7f"),
		"text with byte 255":            text("\xff"),
		"text with a rune":              text("é"),
		"flag of 2":                     flag(2),
		"flag of -1":                    flag(-1),
		"flag with a text":              {Sort: impl.TreeFlag, Text: "yes"},
		"flag with names":               {Sort: impl.TreeFlag, Names: a},
		"flag with kids":                {Sort: impl.TreeFlag, Kids: one},
		"list with a number":            {Sort: impl.TreeList, Num: 1},
		"list with a text":              {Sort: impl.TreeList, Text: "a"},
		"list with names":               {Sort: impl.TreeList, Names: a, Kids: one},
		"list too long":                 list(times(21, num(1))...),
		"form with a number":            {Sort: impl.TreeForm, Num: 1, Names: a, Kids: one},
		"form with a text":              {Sort: impl.TreeForm, Text: "a", Names: a, Kids: one},
		"form with too few kids":        form("a b", num(1)),
		"form with too many kids":       form("a", num(1), num(1)),
		"form with kids alone":          form("", num(1)),
		"form with names alone":         form("a"),
		"form with names not ascending": form("b a", num(1), num(1)),
		"form with one name twice":      form("a a", num(1), num(1)),
		"form with a longer name ahead": form("aa a", num(1), num(1)),
		"form with an empty name":       {Sort: impl.TreeForm, Names: []string{""}, Kids: one},
		"form with a name too long":     form("abcdefghi", num(1)),
		"form with a digit ahead":       form("9a", num(1)),
		"form with a great letter":      form("aB", num(1)),
		"form with a line in a name":    form("a_b", num(1)),
		"form with a blank in a name":   {Sort: impl.TreeForm, Names: []string{"a b"}, Kids: one},
		"form with a rune in a name":    form("é", num(1)),
		"form with a wrong last name":   form("a b C", num(1), num(1), num(1)),
		"maybe with a number":           {Sort: impl.TreeMaybe, Num: 1},
		"maybe with a text":             {Sort: impl.TreeMaybe, Text: "a"},
		"maybe with names":              {Sort: impl.TreeMaybe, Names: a, Kids: one},
		"maybe of two":                  maybe(num(1), num(1)),
		"one level more":                nested(7),
		"one level more, by lists":      list(list(list(list(list(list(num(1))))))),
		"one level more, of an empty":   maybe(maybe(maybe(maybe(maybe(maybe(maybe())))))),
		"one part more, by a form":      wide(120, num(1)),
		"one part more, by lists":       form("a b", fours, list(times(18, num(1))...)),
	}
	return wrong
}

func mustBeRefused(t *testing.T, what string, x impl.Tree) {
	t.Helper()
	if impl.TreeOk(x) || impl.TreeParts(x) != 0 || impl.TreeWrite(x) != "" {
		t.Errorf("%s: ok %v, %d parts, text %q", what, impl.TreeOk(x), impl.TreeParts(x), impl.TreeWrite(x))
	}
}

// Promise 1, the part on trees that are not ok: they and all that hold them have no text and no parts.
func TestTreeNotOk(t *testing.T) {
	for what, x := range wrongTrees() {
		mustBeRefused(t, what, x)
		mustBeRefused(t, what+", in a list", list(num(1), x))
		mustBeRefused(t, what+", in a form", form("a b", x, num(1)))
		mustBeRefused(t, what+", in a maybe", maybe(x))
		mustBeRefused(t, what+", deep", form("a", list(maybe(x))))
	}
}

// Each level and part counts, wherever it is: what is just met is ok, and one more is not.
func TestTreeJustMet(t *testing.T) {
	for levels := 1; levels <= 9; levels++ {
		if got := impl.TreeOk(nested(levels)); got != (levels <= 6) {
			t.Errorf("%d levels: %v", levels, got)
		}
	}
	for names := 110; names <= 130; names++ {
		if got := impl.TreeOk(wide(names, maybe())); got != (names+1 <= 120) {
			t.Errorf("%d names: %v", names, got)
		}
	}
	for size := 18; size <= 23; size++ {
		if got := impl.TreeOk(list(times(size, num(1))...)); got != (size <= 20) {
			t.Errorf("a list of %d: %v", size, got)
		}
	}
}

// A tree that is a kid of itself, or that has its kids many times over, is told of at once.
func TestTreeWithoutEnd(t *testing.T) {
	self := list(num(1))
	self.Kids[0] = self
	mustBeRefused(t, "a kid of itself", self)
	huge := num(1)
	for range 30 {
		huge = list(times(20, huge)...)
	}
	mustBeRefused(t, "20 kids on 30 levels", huge)
	flat := wide(119, num(1))
	flat.Kids = times(119, flat)
	mustBeRefused(t, "119 kids of 119 kids", flat)
}

func wrongTexts() []string {
	wrong := []string{
		"", " ", "\n", "\x00", "\xff",
		"00", "01", "-01", "007", "-0", "-00", "+1", "--1", "-", "1-", "1.0", "1e3", "0x1", "1_0", "1000000000", "-1000000000", "99999999999999999999999",
		`"`, `"a`, `a"`, `"a"b"`, `""""`, "\"\n\"", "\"\x1f\"", "\"\x7f\"", "\"é\"", `"` + strings.Repeat("x", 61) + `"`, `'a'`,
		"y", "ye", "yess", "n", "noo", "not", "Yes", "NO", "true", "yesno",
		"[", "]", "[1", "1]", "[1,", "[1,]", "[,1]", "[,]", "[1,,2]", "[1 ,2]", "[1, 2]", "[ ]", "[1 2]", "[12,03]", "[1;2]", "[1}", "[[]", "[]]", "[~,-0]",
		"{", "}", "{a}", "{a:}", "{:1}", "{a:1", "{a:1,", "{a:1,}", "{,a:1}", "{,}", "{a:1,,b:2}", "{a :1}", "{a: 1}", "{ a:1}", "{a:1 }", "{a:1, b:2}", "{a:1;b:2}", "{a:1]", "{a=1}", "{a,b:1}", "{a::1}", "{1}", "{}}",
		"{b:1,a:2}", "{a:1,a:1}", "{aa:1,a:2}", "{a:1,c:2,b:3}", "{a1:1,a0:2}", "{A:1}", "{aB:1}", "{9a:1}", "{0:1}", "{a_:1}", "{é:1}", "{abcdefghi:1}", `{"a":1}`,
		"?", "??", "~~", "~1", "1?", "? 1", "?-0", "?yess", "?1,2", "?????~1",
		"a", "old", ",", ":",
		"[[[[[[1]]]]]]", "[[[[[[[]]]]]]]", "??????1", "??????~", "{a:{a:{a:{a:{a:{a:1}}}}}}",
		"[1" + strings.Repeat(",1", 20) + "]",
		"{a:[" + strings.Repeat("[1,1,1,1],", 19) + "[1,1,1,1]],b:[1" + strings.Repeat(",1", 17) + "]}",
	}
	var names []string
	for i := range 120 {
		names = append(names, fmt.Sprintf("n%03d:1", i))
	}
	return append(wrong, "{"+strings.Join(names, ",")+"}")
}

func mustNotBeRead(t *testing.T, s string) {
	t.Helper()
	if x, ok := impl.TreeRead(s); ok || !isNothing(x) {
		t.Errorf("%.80q (%d bytes) is read as %v, %v", s, len(s), x, ok)
	}
}

// Promise 2: no second text of a tree is read, and none of what is no tree.
func TestTreeWrongTexts(t *testing.T) {
	for _, s := range wrongTexts() {
		mustNotBeRead(t, s)
	}
	for _, c := range append(ordinaryTrees(), edgeTrees()...) {
		for _, behind := range []string{" ", "\n", "\x00", ",", "]", "}", "~", `"`, ":", "x", c.text} {
			if c.tree.Sort != impl.TreeNum || behind != c.text {
				mustNotBeRead(t, c.text+behind)
			}
		}
		for _, ahead := range []string{" ", "\n", "\x00", ",", "]", "+", "0"} {
			mustNotBeRead(t, ahead+c.text)
		}
	}
}

// A text that is cut off is another tree's (only a number's can be), or none.
func TestTreeCutOff(t *testing.T) {
	for _, c := range append(ordinaryTrees(), edgeTrees()...) {
		for cut := range len(c.text) {
			if c.tree.Sort != impl.TreeNum && !strings.HasPrefix(c.text, "?") {
				mustNotBeRead(t, c.text[:cut])
			}
		}
	}
}

func TestTreeTextTooLong(t *testing.T) {
	for _, size := range []int{10000, 10001, 20000, 1000000} {
		mustNotBeRead(t, strings.Repeat("[", size))
		mustNotBeRead(t, strings.Repeat("?", size-1)+"1")
		mustNotBeRead(t, strings.Repeat("1", size))
		mustNotBeRead(t, strings.Repeat("0", size))
		mustNotBeRead(t, `"`+strings.Repeat("x", size-2)+`"`)
		mustNotBeRead(t, "{"+strings.Repeat("a", size-4)+":1}")
		mustNotBeRead(t, "1"+strings.Repeat(" ", size-1))
	}
}
