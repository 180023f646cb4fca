package tests

import (
	"math/rand"
	"testing"

	"loop.example/tealang/impl"
)

// Promises 9 and 10, of many events on both sides of the bounds, and of what comes of their bytes and texts when some are changed.
func TestEventMany(t *testing.T) {
	g := grower{rand.New(rand.NewSource(6))}
	ok, not, read := 0, 0, 0
	for range 20000 {
		e := event(g.eventType(), g.Intn(14), g.tree(1+g.Intn(8)))
		if g.Intn(2) == 0 {
			names := g.names()
			e.Body = impl.Tree{Sort: impl.TreeForm, Names: names, Kids: g.trees(len(names), 1+g.Intn(6))}
		}
		isGood := e.Type != "" && len(e.Type) <= 8 && 1 <= e.Version && e.Version <= 12 && e.Body.Sort == impl.TreeForm && levelsOf(e.Body) <= 6 && partsOf(e.Body) <= 120
		if !isGood {
			mustBeNoEvent(t, "not ok", e)
			mustNotUnpack(t, "not ok", bytesOf(e))
			not++
			continue
		}
		ok++
		mustComeBack(t, "ok", e)
		if unpacksAsItself(t, g.changed(bytesOf(e))) {
			read++
		}
		if eventReadsAsItself(t, g.changed(textOf(e))) {
			read++
		}
	}
	if ok < 1000 || not < 1000 || read < 100 {
		t.Errorf("too few: %d ok, %d not ok, %d read when changed", ok, not, read)
	}
}

// eventType has none to nine bytes.
func (g grower) eventType() string {
	const letters = "ghpq4567"
	var out []byte
	for range g.Intn(10) {
		out = append(out, letters[g.Intn(len(letters))])
	}
	if len(out) > 0 {
		out[0] = letters[g.Intn(4)]
	}
	return string(out)
}

// changed has another byte at some places, each of those that are in the text.
func (g grower) changed(s string) string {
	out := []byte(s)
	for range 1 + g.Intn(3) {
		out[g.Intn(len(out))] = s[g.Intn(len(s))]
	}
	return string(out)
}
