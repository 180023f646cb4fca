package tests

import (
	"strings"
	"testing"

	"loop.example/tealang/impl"
)

const exampleText = `choose less get n old 0
  fail 7
  each x get items old
    emit form cost div get n old size get items old id x tag none text end
`

const exampleFrom, exampleTo = "{items:[num],n:num}", "{cost:num,id:num,tag:?text}"

// The document's example, and bodies beside its own.
func TestTryExample(t *testing.T) {
	for body, answer := range map[string]string{
		"{items:[4,9],n:-7}":    "stop 5 7\n",
		"{items:[4,9],n:7}":     "emit {cost:3,id:4,tag:~}\nemit {cost:3,id:9,tag:~}\n",
		"{items:[],n:7}":        "drop\n",
		"{items:[],n:-1}":       "stop 5 7\n",
		"{items:[5],n:0}":       "emit {cost:0,id:5,tag:~}\n",
		"{items:[9,4,4,9],n:9}": "emit {cost:2,id:9,tag:~}\nemit {cost:2,id:4,tag:~}\nemit {cost:2,id:4,tag:~}\nemit {cost:2,id:9,tag:~}\n",
		`{items:[4],n:"7"}`:     "no body\n",
		"{items:[yes],n:7}":     "no body\n",
		"{n:7}":                 "no body\n",
		"{}":                    "no body\n",
		"":                      "no body\n",
	} {
		mustTry(t, exampleText, exampleFrom, exampleTo, body, answer)
		mustTryAsSaid(t, strings.Join(strings.Fields(exampleText), " "), exampleFrom, exampleTo, body)
	}
}

// Each of the answers, with its codes and places.
func TestTryAnswers(t *testing.T) {
	const from, to, body = "{l:[num],m:?num,n:num,s:text}", "{a:num}", `{l:[1,2],m:~,n:3,s:"x"}`
	for _, c := range []struct{ text, answer string }{
		// What is made: none, one, several, in their order.
		{"drop", "drop\n"},
		{"both drop drop", "drop\n"},
		{"choose less get n old 0 emit form a 1 end drop", "drop\n"},
		{"each x empty num emit form a x end", "drop\n"},
		{"emit form a 1 end", "emit {a:1}\n"},
		{"emit form a get n old end", "emit {a:3}\n"},
		{"both emit form a 2 end emit form a 1 end", "emit {a:2}\nemit {a:1}\n"},
		{"both emit form a 1 end both drop emit form a 1 end", "emit {a:1}\nemit {a:1}\n"},
		{"both each x get l old emit form a x end emit form a -9 end", "emit {a:1}\nemit {a:2}\nemit {a:-9}\n"},
		{"each x get l old each y get l old emit form a sub x y end", "emit {a:0}\nemit {a:-1}\nemit {a:1}\nemit {a:0}\n"},
		{" \nemit\nform  a 1 end\n ", "emit {a:1}\n"},
		// The stops.
		{"emit form a add get n old 999999999 end", "stop 1 0\n"},
		{"emit form a mul -999999999 get n old end", "stop 1 0\n"},
		{"emit form a div get n old 0 end", "stop 2 0\n"},
		{"emit form a rem get n old sub 1 1 end", "stop 2 0\n"},
		{"emit form a at get l old 2 end", "stop 3 0\n"},
		{"emit form a size part get s old 1 0 end", "stop 3 0\n"},
		{`emit form a size fold t x get l old "xxxxxxxxxxxxxxxx" join t join t t end`, "stop 4 0\n"},
		{"fail 0", "stop 5 0\n"},
		{"fail 1", "stop 5 1\n"},
		{"fail 99", "stop 5 99\n"},
		{"both emit form a 1 end fail 42", "stop 5 42\n"},
		{"both fail 42 emit form a 1 end", "stop 5 42\n"},
		{"both fail 1 fail 2", "stop 5 1\n"},
		{"each x get l old choose same x 2 fail 8 emit form a x end", "stop 5 8\n"},
		{"both emit form a 1 end emit form a div 1 0 end", "stop 2 0\n"},
		{"take x div 1 0 fail 7", "stop 2 0\n"},
		// Faults of LiftParse.
		{"", "fault 2 at 0\n"},
		{" \n ", "fault 2 at 0\n"},
		{"emit", "fault 2 at 1\n"},
		{"old", "fault 2 at 0\n"},
		{"emit form a 1", "fault 2 at 4\n"},
		{"emit form b 1 a 2 end", "fault 2 at 4\n"},
		{"drop drop", "fault 2 at 1\n"},
		{"fail -1", "fault 2 at 1\n"},
		{"fail 100", "fault 2 at 1\n"},
		{"fail 07", "fault 2 at 1\n"},
		{"fail", "fault 2 at 1\n"},
		{"send a 0 old", "fault 2 at 2\n"},
		{"send a 13 old", "fault 2 at 2\n"},
		{"take add 1 drop", "fault 2 at 1\n"},
		{"emit form a none nums end", "fault 2 at 4\n"},
		{`emit form a "b`, "fault 2 at 3\n"},
		{"emit \x00", "fault 2 at 1\n"},
		{"emit " + strings.Repeat("not ", 23) + "yes", "fault 3 at 24\n"},
		{strings.Repeat("both drop ", 24) + "drop", "fault 3 at 47\n"},
		// Faults of LiftCheck.
		{"emit form a zzz end", "fault 5 at 2\n"},
		{"send t 1 form a 1 end", "fault 5 at 0\n"},
		{"both emit form a 1 end send t 1 zzz", "fault 5 at 4\n"},
		{"each x get l old both emit form a x end send t 12 form a x end", "fault 5 at 7\n"},
		{"emit old", "fault 6 at 1\n"},
		{"emit form a 1 b 2 end", "fault 6 at 1\n"},
		{"emit form a add 1 get s old end", "fault 6 at 4\n"},
		{"each x get n old drop", "fault 6 at 1\n"},
		{"choose 1 drop drop", "fault 6 at 1\n"},
		{"take x some some some some some some 1 drop", "fault 7 at 1\n"},
		{"emit form a get z old end", "fault 8 at 2\n"},
		{"emit cut z old", "fault 8 at 1\n"},
		{"both both drop drop emit get a form b 1 end", "fault 8 at 5\n"},
		{"each x get l old each x get l old each x get l old each x get l old drop", "fault 9 at 0\n"},
		{"each x get l old each y get l old both emit form a 1 end emit form a 2 end", "fault 10 at 0\n"},
		// The cost is looked at ahead of the fan.
		{"each x get l old each x get l old each x get l old each x get l old emit form a 1 end", "fault 9 at 0\n"},
	} {
		mustTry(t, c.text, from, to, body, c.answer)
		mustTryAsSaid(t, c.text, from, to, body)
	}
}

// What is told first where two hold: schemas ahead of faults, these ahead of bodies, all of them ahead of stops; the text ahead of what it says.
func TestTryFirst(t *testing.T) {
	for _, c := range []struct{ text, from, to, body, answer string }{
		{"", "", "", "", "no schema\n"},
		{"emit", "{", "{}", "{}", "no schema\n"},
		{"emit", "{}", "{", "{}", "no schema\n"},
		{"emit zzz", "num", "{}", "{}", "no schema\n"},
		{"emit zzz", "{}", "?{}", "{}", "no schema\n"},
		{strings.Repeat("x", 3001), "{}", "{b:num,a:num}", "{}", "no schema\n"},
		{"drop", "{}", "[{}]", "", "no schema\n"},
		{"fail 7", "[num]", "{}", "[1]", "no schema\n"},
		{"emit", "{}", "{}", "", "fault 2 at 1\n"},
		{"emit zzz", "{}", "{}", "", "fault 5 at 1\n"},
		{"emit old", "{a:num}", "{}", "{a:no}", "fault 6 at 1\n"},
		{"emit old", "{a:num}", "{}", "{}", "fault 6 at 1\n"},
		{"emit zzz zzz", "{}", "{}", "{}", "fault 2 at 2\n"},
		{"both emit zzz fail 100", "{}", "{}", "{}", "fault 2 at 4\n"},
		{"both fail 1 emit zzz", "{}", "{}", "{}", "fault 5 at 3\n"},
		{"fail 7", "{a:num}", "{}", "{a:no}", "no body\n"},
		{"fail 7", "{a:num}", "{}", "", "no body\n"},
		{"take x div 1 0 drop", "{}", "{}", "{a:1}", "no body\n"},
		{"drop", "{}", "{}", "{ }", "no body\n"},
		{"fail 7", "{a:num}", "{}", "{a:1}", "stop 5 7\n"},
	} {
		mustTry(t, c.text, c.from, c.to, c.body, c.answer)
		mustTryAsSaid(t, c.text, c.from, c.to, c.body)
	}
}

// What is derived, tried, tells what widening makes, or that it is too big: 118 parts come of 38 numbers, 121 of one more.
func TestTryDerived(t *testing.T) {
	body := func(size int, element impl.Tree) string {
		return impl.TreeWrite(form("a", list(list(times(20, element)...), list(times(size, element)...))))
	}
	for _, c := range []struct{ from, to, body, answer string }{
		{"{}", "{}", "{}", "emit {}\n"},
		{"{a:num}", "{a:?num,b:?{c:flag}}", "{a:1}", "emit {a:?1,b:~}\n"},
		{"{a:?[num]}", "{a:?[?num]}", "{a:?[1,2]}", "emit {a:?[?1,?2]}\n"},
		{"{a:?[num]}", "{a:?[?num]}", "{a:~}", "emit {a:~}\n"},
		{"{a:?[num]}", "{a:?[?num]}", "{a:1}", "no body\n"},
		{"{a:[[num]]}", "{a:[[??num]]}", body(18, num(5)), "emit " + body(18, maybe(maybe(num(5)))) + "\n"},
		{"{a:[[num]]}", "{a:[[??num]]}", body(19, num(5)), "stop 4 0\n"},
	} {
		n, ok := impl.LiftMake(kindOf(c.from), kindOf(c.to))
		if !ok {
			t.Fatalf("%s to %s is not made", c.from, c.to)
		}
		mustTry(t, impl.LiftWrite(n), c.from, c.to, c.body, c.answer)
	}
}
