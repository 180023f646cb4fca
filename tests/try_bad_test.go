package tests

import (
	"strings"
	"testing"

	"loop.example/tealang/impl"
)

// Texts that are no schema, and schemas that are no form's, on either side.
func TestTryNoSchema(t *testing.T) {
	for _, wrong := range append(wrongKindTexts(), "num", "text", "flag", "[num]", "[{}]", "?num", "?{}", "??{a:num}", strings.Repeat("?", 800), "{"+strings.Repeat(" ", 800)+"}", strings.Repeat("[", 1000000)) {
		for _, s := range []string{"drop", "emit old", "fail 7", "emit", ""} {
			for _, body := range []string{"{}", "", "0", "[]", "~"} {
				mustTry(t, s, wrong, "{}", body, "no schema\n")
				mustTry(t, s, "{}", wrong, body, "no schema\n")
				mustTry(t, s, wrong, wrong, body, "no schema\n")
			}
		}
	}
	for _, c := range allKinds() {
		answer := "no schema\n"
		if c.kind.Sort == impl.TreeForm {
			answer = "emit " + impl.TreeWrite(impl.KindFirst(c.kind)) + "\n"
		}
		mustTry(t, "emit old", c.text, c.text, impl.TreeWrite(impl.KindFirst(c.kind)), answer)
	}
}

// Bodies that are not read, and bodies that are but are not of from: even of a text that would not look at them.
func TestTryNoBody(t *testing.T) {
	for _, s := range []string{"drop", "fail 0", "fail 7", "emit form end", "take x div 1 0 drop"} {
		for _, body := range wrongTexts() {
			mustTry(t, s, "{}", "{}", body, "no body\n")
			mustTry(t, s, "{a:num}", "{}", "{a:"+body+"}", "no body\n")
		}
		for _, body := range []string{"{", "{} ", " {}", "{}\n", strings.Repeat("{", 10000), strings.Repeat("{", 10001), "{}" + strings.Repeat(" ", 9999), strings.Repeat("[", 1000000)} {
			mustTry(t, s, "{}", "{}", body, "no body\n")
		}
		for _, body := range []string{"1", `"a"`, "yes", "[]", "[1]", "~", "?{}", "?{a:1}", "[{a:1}]", "{}", "{b:1}", "{a:1,b:1}", "{a:no}", `{a:"1"}`, "{a:?1}", "{a:~}", "{a:[1]}", "{a:{}}", "{a:{a:1}}"} {
			mustTry(t, s, "{a:num}", "{}", body, "no body\n")
		}
	}
	for _, body := range []string{"{a:[]}", "{a:[?1]}", "{a:[?1,~,?2]}"} {
		mustTry(t, "drop", "{a:[?num]}", "{}", body, "drop\n")
	}
	for _, body := range []string{"{a:[1]}", "{a:[?1,2]}", "{a:[??1]}", "{a:[~,?no]}", "{a:~}"} {
		mustTry(t, "drop", "{a:[?num]}", "{}", body, "no body\n")
	}
}

// A body of just the most parts, levels and bytes of texts is done; one more is none.
func TestTryBodiesJustMet(t *testing.T) {
	for size := 17; size <= 22; size++ {
		s := "{a:[1" + strings.Repeat(",1", size-1) + "]}"
		answer := map[bool]string{true: "emit " + s + "\n", false: "no body\n"}[size <= 20]
		mustTry(t, "emit old", "{a:[num]}", "{a:[num]}", s, answer)
	}
	for size := 58; size <= 63; size++ {
		s := `{a:"` + strings.Repeat("x", size) + `"}`
		answer := map[bool]string{true: "emit " + s + "\n", false: "no body\n"}[size <= 60]
		mustTry(t, "emit old", "{a:text}", "{a:text}", s, answer)
	}
	const lists = "{a:[[num]],b:[[num]]}"
	for last := 17; last <= 20; last++ {
		full := strings.Repeat("["+strings.Repeat("1,", 19)+"1],", 4)
		s := "{a:[" + full + "[" + strings.Repeat("1,", last-1) + "1]],b:[" + strings.Repeat("[],", 12) + "[]]}"
		parts := 3 + 5 + 80 + last + 13
		answer := map[bool]string{true: "emit " + s + "\n", false: "no body\n"}[parts <= 120]
		mustTry(t, "emit old", lists, lists, s, answer)
		if parts == 120 {
			mustTry(t, "emit put c old 1", lists, "{a:[[num]],b:[[num]],c:num}", s, "stop 4 0\n")
		}
		if parts == 119 {
			mustTry(t, "emit put c old 1", lists, "{a:[[num]],b:[[num]],c:num}", s, "emit "+strings.TrimSuffix(s, "}")+",c:1}\n")
		}
	}
}

// Upcasters whose bytes, levels, nodes, cost or fan just meet a bound are done; those that pass it by one are not.
func TestTryJustMet(t *testing.T) {
	const from, body = "{l:[num]}", "{l:[1,2,3,4,5,6,7,8,9,10,11,12,13,14,15,16,17,18,19,20]}"
	look := func(n impl.LiftNode, answer string) {
		t.Helper()
		mustTry(t, nodeWords(n), from, "{}", body, answer)
		mustTryAsSaid(t, nodeWords(n), from, "{}", body)
	}
	emits := func(count int) string { return strings.Repeat("emit {}\n", count) }
	// Bytes: blanks count.
	for _, pad := range []string{" ", "\n"} {
		mustTry(t, "fail 7"+strings.Repeat(pad, 2994), from, "{}", body, "stop 5 7\n")
		mustTry(t, "fail 7"+strings.Repeat(pad, 2995), from, "{}", body, "fault 1 at 0\n")
		mustTry(t, strings.Repeat(pad, 2994)+"fail 7", from, "{}", body, "stop 5 7\n")
		mustTry(t, strings.Repeat(pad, 2995)+"fail 7", from, "{}", body, "fault 1 at 0\n")
	}
	mustTry(t, strings.Repeat("x", 3000), from, "{}", body, "fault 2 at 0\n")
	mustTry(t, strings.Repeat("x", 3001), from, "{}", body, "fault 1 at 0\n")
	mustTry(t, strings.Repeat("x", 1000000), from, "{}", body, "fault 1 at 0\n")
	// And the spaces that are wanted between words, behind all others.
	for _, size := range []int{2999, 3000, 3001} {
		spaced := nodeWords(dropsOfBytes(size))
		tight := strings.Replace(spaced, `" "`, `""`, 1)
		answer := map[bool]string{true: "drop\n", false: "fault 1 at 0\n"}[size <= 3000]
		if len(spaced) != size || len(tight) != size-1 {
			t.Fatalf("%d and %d bytes", len(spaced), len(tight))
		}
		mustTry(t, spaced, from, "{}", body, answer)
		mustTry(t, tight, from, "{}", body, answer)
		mustTryAsSaid(t, strings.TrimSuffix(tight, "drop")+"zzzz", from, "{}", body)
	}
	// Levels.
	look(bothNode(24), "drop\n")
	look(bothNode(25), "fault 3 at 24\n")
	// Nodes: 200 of 67 events, as each `emit form end` has two, and all but one of them a `both`.
	look(manyEmits(67), emits(67))
	look(node(impl.LiftBoth, "", manyEmits(66), node(impl.LiftBoth, "", dropNode(), dropNode())), "fault 4 at 266\n")
	// Fan: 19 for each of 20 elements, and the rest.
	for fan := 398; fan <= 402; fan++ {
		answer := map[bool]string{true: emits(fan), false: "fault 10 at 0\n"}[fan <= 400]
		look(node(impl.LiftBoth, "", node(impl.LiftEach, "x", valueOf("get l old"), manyEmits(19)), manyEmits(fan-380)), answer)
	}
	// Cost.
	for cost := 39998; cost <= 40002; cost++ {
		answer := map[bool]string{true: "fault 9 at 0\n", false: "drop\n"}[cost > 40000]
		look(node(impl.LiftTake, "l", valueOf("get l old"), node(impl.LiftTake, "x", costNode(cost-5), dropNode())), answer)
	}
}

// dropsOfBytes makes nothing, and has just so many bytes, from some hundreds on; two of its words are in quotes, one behind the other.
func dropsOfBytes(size int) impl.LiftNode {
	n := dropNode()
	for {
		left := size - len(nodeWords(n)) - len(`take x same "" "" `)
		if left <= 100 {
			one, other := strings.Repeat("p", left/2), strings.Repeat("q", left-left/2)
			return node(impl.LiftTake, "x", node(impl.LiftSame, "", textNode(one), textNode(other)), n)
		}
		part := min(120, left-40)
		n = node(impl.LiftTake, "x", node(impl.LiftSame, "", textNode(strings.Repeat("p", part/2)), textNode(strings.Repeat("q", part-part/2))), n)
	}
}
