package tests

import (
	"slices"
	"strings"
	"testing"
	"unsafe"

	"loop.example/tealang/impl"
)

// unpacksAsItself is promise 10 of bytes; it says whether they were read.
func unpacksAsItself(t *testing.T, s string) bool {
	t.Helper()
	e, ok := impl.EventUnpack([]byte(s))
	switch {
	case ok && (string(impl.EventPack(e)) != s || bytesOf(e) != s || !impl.EventOk(e)):
		t.Errorf("%q is read as %v, which is packed as %q", s, e, impl.EventPack(e))
	case !ok && !isNoEvent(e):
		t.Errorf("%q is not read, but answered with %v", s, e)
	}
	return ok
}

// eventReadsAsItself is promise 10 of a text.
func eventReadsAsItself(t *testing.T, s string) bool {
	t.Helper()
	e, ok := impl.EventRead(s)
	switch {
	case ok && (impl.EventWrite(e) != s || textOf(e) != s || !impl.EventOk(e)):
		t.Errorf("%q is read as %v, which is written as %q", s, e, impl.EventWrite(e))
	case !ok && !isNoEvent(e):
		t.Errorf("%q is not read, but answered with %v", s, e)
	}
	return ok
}

// Promise 10, of what is one byte away from an event's bytes or text.
func TestEventOneByteAway(t *testing.T) {
	for _, c := range allEvents() {
		if len(c.bytes) > 200 { // it takes long, and tells no more than a short one
			continue
		}
		for s := range oneByteAway(c.bytes) {
			unpacksAsItself(t, s)
		}
		for s := range oneByteAway(c.text) {
			eventReadsAsItself(t, s)
		}
	}
}

const shortEventBytes = "\x00\x01\x02\x03\x04\x05\x06a\x80"

// Promises 9 and 10, of all short bytes behind a name of the Body: those that chapter 4 builds are read, and no others.
func TestEventShortBytes(t *testing.T) {
	for size := range 7 {
		want := map[string]bool{}
		for _, s := range treesOfBytes(size) {
			want[s] = true
		}
		for _, s := range allStrings(shortEventBytes, size) {
			if got := unpacksAsItself(t, ofN("", num(0), "", s).bytes); got != want[s] {
				t.Errorf("%q is read: %v", s, got)
			}
		}
	}
}

// treesOfBytes are the bytes of trees, just so many and all of shortEventBytes.
func treesOfBytes(size int) []string {
	var out []string
	for _, s := range numbersOfBytes(size - 2) {
		out = append(out, "\x01\x00"+s)
		if s != "\x00" {
			out = append(out, "\x01\x01"+s)
		}
	}
	if size == 2 {
		out = append(out, "\x02\x00", "\x03\x00", "\x03\x01", "\x04\x00", "\x05\x00", "\x06\x00")
	}
	if 3 <= size && size <= 8 {
		out = append(out, "\x02"+string([]byte{byte(size - 2)})+strings.Repeat("a", size-2))
	}
	for kids := 1; 2+2*kids <= size; kids++ {
		for _, s := range kidsOfBytes(kids, size-2) {
			out = append(out, "\x04"+string([]byte{byte(kids)})+s)
			if kids == 1 {
				out = append(out, "\x06\x01"+s)
			}
		}
	}
	for name := 1; name <= 6 && size-3-name >= 2; name++ {
		for _, kid := range treesOfBytes(size - 3 - name) {
			out = append(out, "\x05\x01"+string([]byte{byte(name)})+strings.Repeat("a", name)+kid)
		}
	}
	return out
}

// numbersOfBytes are the sizes of numbers: each byte but the last is 128 here.
func numbersOfBytes(size int) []string {
	if size < 1 || size > 5 {
		return nil
	}
	var out []string
	for _, last := range strings.TrimSuffix(shortEventBytes, "\x80") {
		fits := size < 5 || last <= 3
		if s := strings.Repeat("\x80", size-1) + string(last); fits && (last > 0 || size == 1) {
			out = append(out, s)
		}
	}
	return out
}

func kidsOfBytes(kids, size int) []string {
	if kids == 1 {
		return treesOfBytes(size)
	}
	var out []string
	for first := 2; first <= size-2; first++ {
		for _, rest := range kidsOfBytes(kids-1, size-first) {
			for _, head := range treesOfBytes(first) {
				out = append(out, head+rest)
			}
		}
	}
	return out
}

// Promise 10, of each way to give a number in up to three bytes, with a sign and the first byte of all there are.
func TestEventNumberBytes(t *testing.T) {
	for sign := range 3 {
		for first := range 256 {
			for _, rest := range append(append(allStrings("\x00\x01\x7f\x80\x81\xff", 1), allStrings("\x00\x01\x7f\x80\x81\xff", 2)...), "") {
				s := string([]byte{byte(sign), byte(first)}) + rest
				size := 0
				for i := range len(s) - 1 {
					size |= int(s[1+i]&127) << (7 * i)
				}
				want := s == numBytes(size) || s == numBytes(-size)
				if got := unpacksAsItself(t, ofN("", num(0), "", "\x01"+s).bytes); got != want {
					t.Errorf("%q is read: %v", s, got)
				}
			}
		}
	}
}

// Promise 10, of each length of a Type, and of all short texts ahead of a Body.
func TestEventShortTexts(t *testing.T) {
	for size := range 6 {
		for _, s := range allStrings("az09A@ \x80", size) {
			eventType, version, _ := strings.Cut(s, "@")
			isType := eventType != "" && strings.Trim(eventType, "az09") == "" && strings.Trim(eventType[:1], "az") == ""
			if got := eventReadsAsItself(t, s+"{}"); got != (isType && version == "9") {
				t.Errorf("%q is read: %v", s+"{}", got)
			}
		}
	}
	for size := range 12 {
		eventType := strings.Repeat("t", size)
		if got := eventReadsAsItself(t, eventType+"@1{}"); got != (1 <= size && size <= 8) {
			t.Errorf("a Type of %d bytes, in a text: %v", size, got)
		}
		if got := unpacksAsItself(t, shortText(eventType)+"\x01\x05\x00"); got != (1 <= size && size <= 8) {
			t.Errorf("a Type of %d bytes: %v", size, got)
		}
	}
}

const wholeEvent = `ab1@3{a:"some text",b:[[1,2,3],{x:1,y:"z"},?1,[]]}`

// An answer is new memory: what is written into one list of it, or behind its end, is seen in no other.
func TestEventAnswerIsNew(t *testing.T) {
	packed := bytesOf(mustReadEvent(t, wholeEvent))
	given := []byte(packed)
	first, _ := impl.EventUnpack(given)
	second, _ := impl.EventUnpack(given)
	third := mustReadEvent(t, wholeEvent)
	for i := range given {
		given[i] = 'q'
	}
	for _, e := range []impl.Event{first, third} {
		spoil(e.Body.Kids[1])
		if got, want := impl.EventWrite(e), `ab1@3{a:"some text",b:[[99,2,3],{x0:99,y:"z"},?99,[]]}`; got != want {
			t.Errorf("%s, not %s", got, want)
		}
	}
	for _, e := range []impl.Event{second, mustReadEvent(t, wholeEvent)} {
		if got := impl.EventWrite(e); got != wholeEvent {
			t.Errorf("%s, not %s", got, wholeEvent)
		}
	}
}

func mustReadEvent(t *testing.T, s string) impl.Event {
	t.Helper()
	e, ok := impl.EventRead(s)
	if !ok {
		t.Fatalf("%q is not read as an event", s)
	}
	return e
}

func spoil(x impl.Tree) {
	for i := range x.Kids {
		kid := &x.Kids[i]
		_ = append(kid.Kids, num(77))
		_ = append(kid.Names, "zz")
		if len(kid.Kids) > 0 {
			kid.Kids[0] = num(99)
		}
		if len(kid.Names) > 0 {
			kid.Names[0] = "x0"
		}
		_ = append(x.Kids, num(88))
	}
}

// The bytes of an answer are new too, and what was packed stays when they are changed.
func TestEventBytesAreNew(t *testing.T) {
	e := mustReadEvent(t, wholeEvent)
	first, second := impl.EventPack(e), impl.EventPack(e)
	_ = append(first, "behind"...)
	for i := range first {
		first[i] = 'q'
	}
	_ = append(first[:0:cap(first)], strings.Repeat("q", cap(first))...)
	if string(second) != bytesOf(e) || impl.EventWrite(e) != wholeEvent {
		t.Errorf("%q, %s", second, impl.EventWrite(e))
	}
}

// The Type, the texts and the names of an answer do not lie in what was read.
func TestEventAnswerSharesNoText(t *testing.T) {
	const s = `abc@1{def:"some text",ghi:"some more"}`
	read := mustReadEvent(t, s)
	given := []byte(bytesOf(read))
	unpacked, _ := impl.EventUnpack(given)
	mustLieElsewhere(t, read, uintptr(unsafe.Pointer(unsafe.StringData(s))), len(s))
	mustLieElsewhere(t, unpacked, uintptr(unsafe.Pointer(unsafe.SliceData(given))), len(given))
}

func mustLieElsewhere(t *testing.T, e impl.Event, start uintptr, size int) {
	t.Helper()
	for _, word := range append(e.Body.Names, e.Type, e.Body.Kids[0].Text, e.Body.Kids[1].Text) {
		at := uintptr(unsafe.Pointer(unsafe.StringData(word)))
		if start <= at && at < start+uintptr(size) {
			t.Errorf("%q lies in the argument", word)
		}
	}
}

// Nothing is written into an argument, or behind its end; what lies behind the end is not read.
func TestEventArgumentStays(t *testing.T) {
	names := []string{"a", "b", "c", "d"}
	kids := []impl.Tree{num(1), list(), num(3), num(4)}
	e := event("a", 1, impl.Tree{Sort: impl.TreeForm, Names: names[:2], Kids: kids[:2]})
	if !impl.EventOk(e) || string(impl.EventPack(e)) != bytesOf(e) || impl.EventWrite(e) != "a@1{a:1,b:[]}" {
		t.Errorf("%v", e)
	}
	if !slices.Equal(names, []string{"a", "b", "c", "d"}) || !slices.EqualFunc(kids, []impl.Tree{num(1), list(), num(3), num(4)}, sameTree) {
		t.Errorf("%v %v", names, kids)
	}
	whole := bytesOf(e) + "behind"
	given := []byte(whole)
	if got, ok := impl.EventUnpack(given[:len(bytesOf(e))]); !ok || !sameEvent(got, e) {
		t.Errorf("%v", got)
	}
	for cut := range len(bytesOf(e)) {
		if got, ok := impl.EventUnpack(given[:cut]); ok || !isNoEvent(got) {
			t.Errorf("cut at %d: %v", cut, got)
		}
	}
	if string(given) != whole {
		t.Errorf("%q", given)
	}
}
