package tests

import (
	"strings"
	"testing"

	"loop.example/tealang/impl"
)

// Promise 9, of ordinary events and of those at the edges.
func TestEventThereAndBack(t *testing.T) {
	for _, c := range allEvents() {
		if !impl.EventOk(c.event) {
			t.Errorf("%s: not ok", c.what)
		}
		if got := string(impl.EventPack(c.event)); got != c.bytes {
			t.Errorf("%s: packed as %q, not %q", c.what, got, c.bytes)
		}
		if got, ok := impl.EventUnpack([]byte(c.bytes)); !ok || !sameEvent(got, c.event) {
			t.Errorf("%s: %q is read as %v, %v", c.what, c.bytes, got, ok)
		}
		if got := impl.EventWrite(c.event); got != c.text {
			t.Errorf("%s: written as %s, not %s", c.what, got, c.text)
		}
		if got, ok := impl.EventRead(c.text); !ok || !sameEvent(got, c.event) {
			t.Errorf("%s: %s is read as %v, %v", c.what, c.text, got, ok)
		}
	}
}

// Promise 9, of each tree that there is, as the kid of a Body and as the Body itself.
func TestEventOfEachTree(t *testing.T) {
	for _, c := range append(ordinaryTrees(), edgeTrees()...) {
		if levelsOf(c.tree) < impl.TreeMaxDeep && c.parts < impl.TreeMaxParts {
			mustComeBack(t, c.what, event("ab1", 7, form("k", c.tree)))
		}
		if e := event("ab1", 7, c.tree); c.tree.Sort == impl.TreeForm {
			mustComeBack(t, c.what, e)
		} else {
			mustBeNoEvent(t, c.what, e)
		}
	}
}

// mustComeBack is promise 9 of one event that is ok.
func mustComeBack(t *testing.T, what string, e impl.Event) {
	t.Helper()
	packed, written := impl.EventPack(e), impl.EventWrite(e)
	if !impl.EventOk(e) || string(packed) != bytesOf(e) || written != textOf(e) {
		t.Errorf("%s: ok %v, packed as %q, written as %q", what, impl.EventOk(e), packed, written)
	}
	if len(packed) > impl.EventMaxBytes || len(written) > impl.TreeMaxWrite {
		t.Errorf("%s: %d bytes, a text of %d", what, len(packed), len(written))
	}
	if got, ok := impl.EventUnpack(packed); !ok || !sameEvent(got, e) {
		t.Errorf("%s: %q is read as %v, %v", what, packed, got, ok)
	}
	if got, ok := impl.EventRead(written); !ok || !sameEvent(got, e) {
		t.Errorf("%s: %q is read as %v, %v", what, written, got, ok)
	}
}

// Promise 9: the most bytes and the longest text that an event can have are still read.
func TestEventLongest(t *testing.T) {
	longest := event("abcdefgh", 12, wide(119, text(strings.Repeat("x", 60))))
	mustComeBack(t, "the longest", longest)
	if got := len(impl.EventPack(longest)); got != 9+1+2+119*(9+2+60) {
		t.Errorf("%d bytes", got)
	}
	if got := len(impl.EventWrite(longest)); got != 8+1+2+1+119*(8+1+62+1) {
		t.Errorf("a text of %d bytes", got)
	}
}

// Promise 9, of each version that there is; the ones beyond have none.
func TestEventVersions(t *testing.T) {
	for version := -300; version <= 300; version++ {
		e := event("v", version, form("n", num(version)))
		if 1 <= version && version <= 12 {
			mustComeBack(t, "a version", e)
		} else {
			mustBeNoEvent(t, "a version", e)
		}
	}
}

// Promise 9, of numbers around each power of 2, where a byte more is needed.
func TestEventNumbers(t *testing.T) {
	for power := 1; power < impl.TreeMaxNum; power *= 2 {
		for n := max(power-2, 0); n <= min(power+2, impl.TreeMaxNum); n++ {
			mustComeBack(t, "a number", event("a", 1, form("n", num(n))))
			mustComeBack(t, "a number below 0", event("a", 1, form("n", num(-n))))
		}
	}
}

// The empty list and the nil list are the same value.
func TestEventEmptyLists(t *testing.T) {
	bare := event("a", 1, impl.Tree{Sort: impl.TreeForm})
	full := event("a", 1, impl.Tree{Sort: impl.TreeForm, Names: []string{}, Kids: []impl.Tree{}})
	mustComeBack(t, "nil lists", bare)
	mustComeBack(t, "empty lists", full)
	if impl.EventWrite(bare) != "a@1{}" || impl.EventWrite(full) != "a@1{}" {
		t.Errorf("%s, %s", impl.EventWrite(bare), impl.EventWrite(full))
	}
}

func TestEventLimits(t *testing.T) {
	if impl.EventMaxVersion != 12 || impl.EventMaxBytes != 9000 {
		t.Errorf("%d, %d", impl.EventMaxVersion, impl.EventMaxBytes)
	}
}
