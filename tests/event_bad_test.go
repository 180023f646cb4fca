package tests

import (
	"strings"
	"testing"

	"loop.example/tealang/impl"
)

func mustBeNoEvent(t *testing.T, what string, e impl.Event) {
	t.Helper()
	if impl.EventOk(e) || len(impl.EventPack(e)) != 0 || impl.EventWrite(e) != "" {
		t.Errorf("%s: ok %v, packed as %q, written as %q", what, impl.EventOk(e), impl.EventPack(e), impl.EventWrite(e))
	}
}

// An event that is not ok in its Type, its Version or its Body has no bytes and no text.
func TestEventNotOk(t *testing.T) {
	body := form("n", num(1))
	mustBeNoEvent(t, "nothing", impl.Event{})
	mustBeNoEvent(t, "no Type", impl.Event{Version: 1, Body: body})
	mustBeNoEvent(t, "no Version", impl.Event{Type: "a", Body: body})
	mustBeNoEvent(t, "no Body", impl.Event{Type: "a", Version: 1})
	for _, eventType := range []string{"", "A", "aB", "9a", "0", "a_b", "a b", " a", "a ", "a@", "@", "a\n", "a\x00", "é", "aé", "\xff", "a\x80", "abcdefghi", strings.Repeat("a", 256), strings.Repeat("a", 257)} {
		mustBeNoEvent(t, "the Type "+eventType, event(eventType, 1, body))
	}
	for _, version := range []int{0, 13, -1, -12, 255, 256, 257, 268, 1<<16 + 1, 1<<24 + 1, int(^uint(0) >> 1), -int(^uint(0)>>1) - 1} {
		mustBeNoEvent(t, "a Version", event("a", version, body))
	}
	for _, x := range []impl.Tree{num(1), text("x"), flag(1), list(), list(body), maybe(), maybe(body)} {
		mustBeNoEvent(t, "a Body that is no form", event("a", 1, x))
	}
	for what, x := range wrongTrees() {
		mustBeNoEvent(t, what, event("a", 1, x))
		mustBeNoEvent(t, what+", in a form", event("a", 1, form("n", x)))
		mustBeNoEvent(t, what+", behind", event("a", 1, form("m n", num(1), list(num(1), x))))
	}
}

// A Body that is a kid of itself, or that has its kids many times over, is told of at once.
func TestEventWithoutEnd(t *testing.T) {
	self := form("a", num(1))
	self.Kids[0] = self
	mustBeNoEvent(t, "a kid of itself", event("a", 1, self))
	huge := num(1)
	for range 30 {
		huge = form("a b", huge, huge)
	}
	mustBeNoEvent(t, "two kids on 30 levels", event("a", 1, huge))
}

func mustNotUnpack(t *testing.T, what, s string) {
	t.Helper()
	if e, ok := impl.EventUnpack([]byte(s)); ok || !isNoEvent(e) {
		t.Errorf("%s: %.80q (%d bytes) is read as %v, %v", what, s, len(s), e, ok)
	}
}

// Promise 10: bytes that end early at each place, or go on behind the end.
func TestEventBytesCutOff(t *testing.T) {
	mustNotUnpack(t, "no bytes", "")
	for _, c := range allEvents() {
		for cut := range len(c.bytes) {
			mustNotUnpack(t, c.what+", cut off", c.bytes[:cut])
			mustNotUnpack(t, c.what+", begun late", c.bytes[cut+1:])
		}
		for b := range 256 {
			mustNotUnpack(t, c.what+", gone on", c.bytes+string([]byte{byte(b)}))
		}
		mustNotUnpack(t, c.what+", twice", c.bytes+c.bytes)
	}
}

// wrongBytes are each wrong in one thing alone.
func wrongBytes() map[string][]string {
	x255, x61 := strings.Repeat("x", 255), strings.Repeat("x", 61)
	one := "\x01\x00\x01"
	return map[string][]string{
		"the Type":    {"\x00\x01\x05\x00", "\x01A\x01\x05\x00", "\x019\x01\x05\x00", "\x02a \x01\x05\x00", "\x02a@\x01\x05\x00", "\x02a\x00\x01\x05\x00", "\x02\xc3\xa9\x01\x05\x00", "\x03a\xc3\xa9\x01\x05\x00", "\x01\xff\x01\x05\x00", "\x02a\x80\x01\x05\x00", "\x09abcdefghi\x01\x05\x00", "\xff" + x255 + "\x01\x05\x00", "\x80\x00a\x01\x05\x00"},
		"the Version": {"\x01a\x00\x05\x00", "\x01a\x0d\x05\x00", "\x01a\x80\x05\x00", "\x01a\x81\x00\x05\x00", "\x01a\xff\x05\x00", "\x01a1\x05\x00", "\x01a\x05\x00"},
		"the Body":    {"\x01a\x01\x01\x00\x00", "\x01a\x01\x02\x00", "\x01a\x01\x03\x00", "\x01a\x01\x04\x00", "\x01a\x01\x06\x00", "\x01a\x01\x06\x01\x05\x00", "\x01a\x01\x04\x01\x05\x00", "\x01a\x01\x00", "\x01a\x01\x07\x00", "\x01a\x01\x85\x00", "\x01a\x01{}"},
		"the Sort":    ofNBytes("\x00", "\x00\x00", "\x07", "\x07\x00", "\x80\x00", "\xff\x00", "\x04\x01\x00", "\x04\x02\x01\x00\x01\x07", "\x06\x01\x09", "\x05\x01\x01n\x08\x00"),
		"the sign":    ofNBytes("\x01\x02\x05", "\x01\x80\x05", "\x01\xff\x05", "\x01\x03\x00", "\x01\x05"),
		"0 with sign": ofNBytes("\x01\x01\x00", "\x04\x01\x01\x01\x00", "\x01\x01\x80\x00", "\x06\x01\x01\x01\x00"),
		"more bytes than need be": ofNBytes("\x01\x00\x80\x00", "\x01\x00\x85\x00", "\x01\x01\x85\x00", "\x01\x00\xff\x00", "\x01\x00\x80\x80\x00", "\x01\x00\x80\x81\x00", "\x01\x00\x80\x80\x80\x00",
			"\x01\x00\x80\x80\x80\x80\x00", "\x01\x00\x81\x80\x80\x80\x80\x00", "\x01\x00\xff\x93\xeb\xdc\x83\x00", "\x01\x00\x80\x80\x80\x80\x80\x80\x80\x80\x80\x00"),
		"a number too great": ofNBytes("\x01\x00\x80\x94\xeb\xdc\x03", "\x01\x01\x80\x94\xeb\xdc\x03", "\x01\x00\xff\xff\xff\xff\x03", "\x01\x00\x80\x80\x80\x80\x04", "\x01\x00\x80\x80\x80\x80\x08", "\x01\x00\x80\x80\x80\x80\x10", "\x01\x00\x85\x80\x80\x80\x10", "\x01\x00\xff\xff\xff\xff\x7f",
			"\x01\x00\x80\x80\x80\x80\x80\x01", "\x01\x00\x85\x80\x80\x80\x80\x80\x80\x80\x80\x01", "\x01\x00\x85\x80\x80\x80\x80\x80\x80\x80\x80\x02", "\x01\x00\x85\x80\x80\x80\x80\x80\x80\x80\x80\x80\x01", "\x01\x01\xff\xff\xff\xff\xff\xff\xff\xff\xff\x01",
			"\x01\x00\x85"+strings.Repeat("\x80", 40)+"\x01", "\x01\x00\x85"+strings.Repeat("\x80", 8000)+"\x7f"),
		"the text":        ofNBytes("\x02\x3d"+x61, "\x02\xff"+x255, "\x02\x01\"", "\x02\x01\x1f", "\x02\x01\x7f", "\x02\x01\x80", "\x02\x02\xc3\xa9", "\x02\x03a\nb", "\x02\x03\"a\"", "\x02\x02x", "\x02\x00x", "\x02\x80\x00"),
		"the flag":        ofNBytes("\x03\x02", "\x03\x80", "\x03\xff", "\x03", "\x03\x00\x00", "\x03\x01\x01"),
		"the list":        ofNBytes("\x04\x15"+strings.Repeat(one, 21), "\x04\x01", "\x04\x02"+one, "\x04\x01"+one+one, "\x04\x80"+one, "\x04\xff"+strings.Repeat(one, 254), "\x04\xff"+strings.Repeat(one, 255), "\x04\x01\x01n"+one),
		"the maybe":       ofNBytes("\x06\x01", "\x06\x02"+one, "\x06\x02"+one+one, "\x06\xff"+one, "\x06\x00"+one, "\x06\x80\x00"),
		"the form":        ofNBytes("\x05\x01", "\x05\x01\x01a", "\x05\x02\x01a"+one, "\x05\x02\x01a\x01b"+one+one, "\x05\x01"+one, "\x05\xff\x01a"+one, "\x05\x00\x01a"+one),
		"the names":       ofNBytes("\x05\x02\x01b"+one+"\x01a"+one, "\x05\x02\x01a"+one+"\x01a"+one, "\x05\x02\x02aa"+one+"\x01a"+one, "\x05\x02\x02a1"+one+"\x02a0"+one, "\x05\x03\x01a"+one+"\x01c"+one+"\x01b"+one),
		"a name":          ofNBytes("\x05\x01\x00"+one, "\x05\x01\x01A"+one, "\x05\x01\x011"+one, "\x05\x01\x02a "+one, "\x05\x01\x02\xc3\xa9"+one, "\x05\x01\x09abcdefghi"+one, "\x05\x01\xffa"+one, "\x05\x01\x01\x00"+one),
		"the top's names": {"\x01a\x01\x05\x02\x01b" + one + "\x01a" + one, "\x01a\x01\x05\x02\x01a" + one + "\x01a" + one, "\x01a\x01\x05\x01\x01B" + one, "\x01a\x01\x05\x01\x00" + one},
		"levels":          ofNBytes("\x06\x01\x06\x01\x06\x01\x06\x01\x06\x01\x06\x00", "\x04\x01\x04\x01\x04\x01\x04\x01\x04\x01"+one, strings.Repeat("\x06\x01", 300)+"\x06\x00"),
		"parts":           {bytesOf(event("a", 1, wide(120, maybe()))), bytesOf(event("a", 1, wide(255, maybe()))), bytesOf(event("a", 1, wide(17, list(times(7, num(1))...))))},
	}
}

func ofNBytes(trees ...string) []string {
	for i, s := range trees {
		trees[i] = ofN("", num(0), "", s).bytes
	}
	return trees
}

// Promise 10: no other bytes of an event are read, and none of what is no event.
func TestEventWrongBytes(t *testing.T) {
	for what, all := range wrongBytes() {
		for _, s := range all {
			mustNotUnpack(t, what, s)
		}
	}
}

// A count of Kids that are not there, with or without a few that are.
func TestEventCountWithoutKids(t *testing.T) {
	for _, sort := range []string{"\x04", "\x05", "\x06"} {
		for count := 1; count < 256; count++ {
			head := "\x01a\x01\x05\x01\x01n" + sort + string([]byte{byte(count)})
			mustNotUnpack(t, "no kid", head)
			kid := "\x06\x00"
			if sort == "\x05" {
				kid = "\x01k\x06\x00"
			}
			mustNotUnpack(t, "a kid too few", head+strings.Repeat(kid, count-1))
			mustNotUnpack(t, "a kid too many", head+strings.Repeat(kid, count+1))
		}
	}
}

// Bytes and texts on both sides of the limits. No event that is ok is as long as that.
func TestEventTooLong(t *testing.T) {
	for _, size := range []int{8999, 9000, 9001, 10000, 1000000} {
		for _, filler := range []string{"\x00", "\x01", "\x06\x01", "\x05\x01\x01a", "\x04\x01", "\x04\xff", "\x05\xff\x01a", "\x80", "\xff", "a"} {
			head := "\x01a\x01\x05\x01\x01n"
			mustNotUnpack(t, "a filler", (head + strings.Repeat(filler, size))[:size])
			mustNotUnpack(t, "a filler alone", strings.Repeat(filler, size)[:size])
			mustNotUnpack(t, "a filler behind", ("\x01a\x01\x05\x00" + strings.Repeat(filler, size))[:size])
		}
	}
	for _, size := range []int{9999, 10000, 10001, 1000000} {
		for _, filler := range []string{"a", "@", "0", "1", "{", "}", "{a:", "[", "?", " ", "\"", "\xff", "é"} {
			mustNotReadEvent(t, ("a@1{n:" + strings.Repeat(filler, size))[:size])
			mustNotReadEvent(t, ("a@1{}" + strings.Repeat(filler, size))[:size])
			mustNotReadEvent(t, ("a@" + strings.Repeat(filler, size))[:size-2]+"{}")
			mustNotReadEvent(t, strings.Repeat(filler, size)[:size-4]+"@1{}")
		}
	}
}

func mustNotReadEvent(t *testing.T, s string) {
	t.Helper()
	if e, ok := impl.EventRead(s); ok || !isNoEvent(e) {
		t.Errorf("%.80q (%d bytes) is read as %v, %v", s, len(s), e, ok)
	}
}

func wrongEventTexts() []string {
	return []string{
		"", " ", "\n", "\x00", "\xff", "@", "@@", "a", "a@", "a@1", "@1{}", "1{}", "{}", "a{}", "a1{}", "a@{}", "a@@1{}", "a@1@{}", "a@1@2{}", "aé@1{}", "a:1{}", "a 1{}", "b@a@1{}",
		"A@1{}", "aB@1{}", "9a@1{}", "0@1{}", "a_b@1{}", "é@1{}", "a\x80@1{}", "abcdefghi@1{}", "\"a\"@1{}",
		"a@0{}", "a@13{}", "a@-1{}", "a@-0{}", "a@+1{}", "a@01{}", "a@001{}", "a@012{}", "a@00{}", "a@1.0{}", "a@1e0{}", "a@0x1{}", "a@1_0{}", "a@yes{}", "a@x{}", "a@99999999999999999999999{}", "a@4294967297{}", "a@257{}", "a@~{}", "a@\"1\"{}",
		" a@1{}", "a @1{}", "a@ 1{}", "a@1 {}", "a@1{ }", "a@1{} ", "a@1{}\n", "\na@1{}", "a@1\t{}", "a@1{n: 1}", "a@1{n :1}", "a@1{m:1, n:1}",
		"a@1[]", "a@1[{}]", "a@1~", "a@1?{}", "a@1\"{}\"", "a@1yes", "a@11", "a@1\"\"", "a@1-1", "a@1[1,{}]",
		"a@1{", "a@1}", "a@1{}}", "a@1{{}}", "a@1{}{}", "a@1{}a@1{}", "a@1{},", "a@1{},a@1{}", "a@1{a}", "a@1{a:}", "a@1{a:1", "a@1{a:1,}", "a@1{a:01}", "a@1{a:-0}", "a@1{a:1000000000}",
		"a@1{b:1,a:1}", "a@1{a:1,a:1}", "a@1{aa:1,a:1}", "a@1{A:1}", "a@1{abcdefghi:1}", "a@1{a:\"" + strings.Repeat("x", 61) + "\"}", "a@1{a:[1" + strings.Repeat(",1", 20) + "]}", "a@1{a:[[[[[1]]]]]}", "a@1{a:?????~}",
		"a@1" + strings.Replace(impl.TreeWrite(wide(119, maybe())), "~", "?~", 1),
	}
}

// Promise 10: no second text of an event is read, and none of what is no event.
func TestEventWrongTexts(t *testing.T) {
	for _, s := range wrongEventTexts() {
		mustNotReadEvent(t, s)
	}
	for _, c := range allEvents() {
		for cut := range len(c.text) {
			mustNotReadEvent(t, c.text[:cut])
		}
		for _, around := range []string{" ", "\n", "\x00", "{", "}", "@", "0", "\xff"} {
			mustNotReadEvent(t, c.text+around)
			mustNotReadEvent(t, around+c.text)
			for _, mark := range []string{"@", "{"} {
				mustNotReadEvent(t, strings.Replace(c.text, mark, mark+around, 1))
			}
		}
		mustNotReadEvent(t, strings.Replace(c.text, "@", "@0", 1))
		mustNotReadEvent(t, strings.Replace(c.text, "@", "", 1))
		mustNotReadEvent(t, c.bytes)
		mustNotUnpack(t, "a text as bytes", c.text)
	}
	for _, s := range wrongTexts() {
		mustNotReadEvent(t, "a@1"+s)
		mustNotReadEvent(t, "a@1{n:"+s+"}")
	}
}
