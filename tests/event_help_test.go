package tests

import (
	"fmt"
	"strings"

	"loop.example/tealang/impl"
)

type eventCase struct {
	what  string
	event impl.Event
	text  string
	bytes string
}

func event(eventType string, version int, body impl.Tree) impl.Event {
	return impl.Event{Type: eventType, Version: version, Body: body}
}

// ofN is an event with this tree alone, at the name n.
func ofN(what string, tree impl.Tree, text, bytes string) eventCase {
	return eventCase{what, event("a", 1, form("n", tree)), "a@1{n:" + text + "}", "\x01a\x01\x05\x01\x01n" + bytes}
}

func ordinaryEvents() []eventCase {
	return []eventCase{
		{"the document's", event("order", 2, form("n", num(7))), "order@2{n:7}", "\x05order\x02\x05\x01\x01n\x01\x00\x07"},
		{"the empty form", event("a", 1, form("")), "a@1{}", "\x01a\x01\x05\x00"},
		{"many names", event("b2", 11, form("a a0 aa b", flag(1), flag(0), num(1), maybe())), "b2@11{a:yes,a0:no,aa:1,b:~}", "\x02b2\x0b\x05\x04\x01a\x03\x01\x02a0\x03\x00\x02aa\x01\x00\x01\x01b\x06\x00"},
		ofN("a number", num(64), "64", "\x01\x00\x40"),
		ofN("a number below 0", num(-5), "-5", "\x01\x01\x05"),
		ofN("a number of two bytes", num(300), "300", "\x01\x00\xac\x02"),
		ofN("a text", text("a b"), `"a b"`, "\x02\x03a b"),
		ofN("a text of marks", text("@1{}[]~?:,\\"), `"@1{}[]~?:,\"`, "\x02\x0b@1{}[]~?:,\\"),
		ofN("yes", flag(1), "yes", "\x03\x01"),
		ofN("no", flag(0), "no", "\x03\x00"),
		ofN("a list", list(num(3), text("x"), flag(1)), `[3,"x",yes]`, "\x04\x03\x01\x00\x03\x02\x01x\x03\x01"),
		ofN("a list of lists", list(list(), list(num(1))), "[[],[1]]", "\x04\x02\x04\x00\x04\x01\x01\x00\x01"),
		ofN("a form", form("x yy", num(0), form("")), "{x:0,yy:{}}", "\x05\x02\x01x\x01\x00\x00\x02yy\x05\x00"),
		ofN("nothing within something", maybe(maybe()), "?~", "\x06\x01\x06\x00"),
		ofN("a form within something", maybe(form("k", list(maybe(num(-1))))), "?{k:[?-1]}", "\x06\x01\x05\x01\x01k\x04\x01\x06\x01\x01\x01\x01"),
	}
}

func edgeEvents() []eventCase {
	x60, x20 := strings.Repeat("x", 60), strings.Repeat("\x01\x00\x01", 20)
	return []eventCase{
		{"the least version", event("a", 1, form("")), "a@1{}", "\x01a\x01\x05\x00"},
		{"the greatest version", event("a", 12, form("")), "a@12{}", "\x01a\x0c\x05\x00"},
		{"the longest Type", event("abcdefgh", 9, form("")), "abcdefgh@9{}", "\x08abcdefgh\x09\x05\x00"},
		{"the last letter and digit", event("z0a9", 10, form("")), "z0a9@10{}", "\x04z0a9\x0a\x05\x00"},
		{"the longest name", event("a", 1, form("zyxwvu98", num(1))), "a@1{zyxwvu98:1}", "\x01a\x01\x05\x01\x08zyxwvu98\x01\x00\x01"},
		ofN("nought", num(0), "0", "\x01\x00\x00"),
		ofN("one", num(1), "1", "\x01\x00\x01"),
		ofN("one below", num(-1), "-1", "\x01\x01\x01"),
		ofN("seven bits", num(127), "127", "\x01\x00\x7f"),
		ofN("one more than seven bits", num(128), "128", "\x01\x00\x80\x01"),
		ofN("seven bits, below", num(-127), "-127", "\x01\x01\x7f"),
		ofN("one more than seven bits, below", num(-128), "-128", "\x01\x01\x80\x01"),
		ofN("fourteen bits", num(16383), "16383", "\x01\x00\xff\x7f"),
		ofN("one more than fourteen bits", num(16384), "16384", "\x01\x00\x80\x80\x01"),
		ofN("twenty-one bits", num(2097151), "2097151", "\x01\x00\xff\xff\x7f"),
		ofN("one more than twenty-one bits", num(2097152), "2097152", "\x01\x00\x80\x80\x80\x01"),
		ofN("twenty-eight bits", num(-268435455), "-268435455", "\x01\x01\xff\xff\xff\x7f"),
		ofN("one more than twenty-eight bits", num(-268435456), "-268435456", "\x01\x01\x80\x80\x80\x80\x01"),
		ofN("noughts within", num(16385), "16385", "\x01\x00\x81\x80\x01"),
		ofN("the greatest number", num(999999999), "999999999", "\x01\x00\xff\x93\xeb\xdc\x03"),
		ofN("the least number", num(-999999999), "-999999999", "\x01\x01\xff\x93\xeb\xdc\x03"),
		ofN("the empty text", text(""), `""`, "\x02\x00"),
		ofN("the longest text", text(x60), `"`+x60+`"`, "\x02\x3c"+x60),
		ofN("the least and the greatest byte", text(" !#~"), `" !#~"`, "\x02\x04 !#~"),
		ofN("the empty list", list(), "[]", "\x04\x00"),
		ofN("the longest list", list(times(20, num(1))...), "[1"+strings.Repeat(",1", 19)+"]", "\x04\x14"+x20),
		ofN("the empty form within", form(""), "{}", "\x05\x00"),
		ofN("nothing", maybe(), "~", "\x06\x00"),
		ofN("something", maybe(num(5)), "?5", "\x06\x01\x01\x00\x05"),
		ofN("the most levels", maybe(maybe(maybe(maybe(maybe())))), "????~", "\x06\x01\x06\x01\x06\x01\x06\x01\x06\x00"),
		{"the most parts", event("a", 1, wide(119, maybe())), textOf(event("a", 1, wide(119, maybe()))), bytesOf(event("a", 1, wide(119, maybe())))},
	}
}

func allEvents() []eventCase {
	return append(ordinaryEvents(), edgeEvents()...)
}

// textOf and bytesOf are what the document says of events that are ok, a second time.
func textOf(e impl.Event) string {
	return fmt.Sprintf("%s@%d%s", e.Type, e.Version, impl.TreeWrite(e.Body))
}

func bytesOf(e impl.Event) string {
	return shortText(e.Type) + string([]byte{byte(e.Version)}) + treeBytes(e.Body)
}

func shortText(s string) string {
	return string([]byte{byte(len(s))}) + s
}

func treeBytes(x impl.Tree) string {
	out := string([]byte{byte(x.Sort)})
	switch x.Sort {
	case impl.TreeNum:
		return out + numBytes(x.Num)
	case impl.TreeText:
		return out + shortText(x.Text)
	case impl.TreeFlag:
		return out + string([]byte{byte(x.Num)})
	}
	out += string([]byte{byte(len(x.Kids))})
	for i, kid := range x.Kids {
		if x.Sort == impl.TreeForm {
			out += shortText(x.Names[i])
		}
		out += treeBytes(kid)
	}
	return out
}

func numBytes(n int) string {
	if n < 0 {
		return "\x01" + sizeBytes(-n)
	}
	return "\x00" + sizeBytes(n)
}

func sizeBytes(n int) string {
	if n < 128 {
		return string([]byte{byte(n)})
	}
	return string([]byte{byte(n&127 | 128)}) + sizeBytes(n>>7)
}

func sameEvent(a, b impl.Event) bool {
	return a.Type == b.Type && a.Version == b.Version && sameTree(a.Body, b.Body)
}

func isNoEvent(e impl.Event) bool {
	return sameEvent(e, impl.Event{})
}
