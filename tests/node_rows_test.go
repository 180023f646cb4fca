package tests

import (
	"strings"
	"testing"

	"loop.example/tealang/impl"
)

// mustAgree holds LiftWrite, which goes by the rows that are kept, against LiftOk and LiftParse, which go by the function.
func mustAgree(t *testing.T, n impl.LiftNode) {
	t.Helper()
	s := impl.LiftWrite(n)
	if impl.LiftOk(n) != (s != "") {
		t.Errorf("%s: ok %v, written as %q", nodeWords(n), impl.LiftOk(n), s)
	}
	if s == "" {
		return
	}
	if read, fault := impl.LiftParse(s); fault != (impl.LiftFault{}) || !sameNode(read, n) {
		t.Errorf("%s: written as %q, and that is read as %s, %v", nodeWords(n), s, nodeWords(read), fault)
	}
}

// ofOp is the first node of an op, as an action or in one.
func ofOp(op int) impl.LiftNode {
	for _, c := range ordinaryNodes() {
		switch {
		case c.node.Op == op:
			return c.node
		case c.node.Op == impl.LiftEmit && c.node.Kids[0].Op == op:
			return c.node
		}
	}
	panic("no node of the op")
}

// What the function says of each op, and what its row says, is the same: its word, its parts and their order, and the bounds of its number.
func TestNodeRowsAgree(t *testing.T) {
	for op := impl.LiftNum; op <= impl.LiftEach; op++ {
		n := ofOp(op)
		if !impl.LiftOk(n) || impl.LiftWrite(n) != nodeWords(n) {
			t.Errorf("op %d: ok %v, written as %q, not as %q", op, impl.LiftOk(n), impl.LiftWrite(n), nodeWords(n))
		}
		mustAgree(t, n)
		inner := n
		if op < impl.LiftDrop {
			inner = n.Kids[0]
		}
		for _, v := range variants(inner) {
			mustAgree(t, v)
			mustAgree(t, emitNode(v))
		}
		for number := -2; number <= 102; number++ {
			numbered := inner
			numbered.Num = number
			mustAgree(t, numbered)
			mustAgree(t, emitNode(numbered))
		}
	}
}

// A word of an op is the name of no value, by the function and by the rows.
func TestNodeRowsAgreeOnNames(t *testing.T) {
	one := numNode(1)
	for _, word := range append(opWords(), "yes", "no", "end", "x", "adds", "non", "s", "no1", "tree", "num") {
		bound := isBoundName(word)
		for _, n := range []impl.LiftNode{
			emitNode(nameNode(word)), emitNode(node(impl.LiftLet, word, one, one)), node(impl.LiftTake, word, one, dropNode()), node(impl.LiftEach, word, one, dropNode()), emitNode(node(impl.LiftFold, "x1 "+word, one, one, one)),
		} {
			mustAgree(t, n)
			if impl.LiftOk(n) != bound || (impl.LiftWrite(n) != "") != bound {
				t.Errorf("%s: ok %v, written as %q", nodeWords(n), impl.LiftOk(n), impl.LiftWrite(n))
			}
		}
		mustAgree(t, sendNode(word, 1, one))
	}
}

// padNode is an action of just so many bytes, some hundreds at least.
func padNode(bytes int) impl.LiftNode {
	bytes -= len("emit form end")
	count := (bytes + 68) / 69
	form := formNode(count, numNode(1))
	for i := range count {
		size := bytes*(i+1)/count - bytes*i/count - len(` n1000 ""`)
		form.Kids[i] = textNode(strings.Repeat("p", size))
	}
	return emitNode(form)
}

// The bytes of the words of each op count alike: an action of just LiftMaxText bytes is ok and written, one of a byte more is neither.
func TestNodeRowsAgreeOnBytes(t *testing.T) {
	for op := impl.LiftNum; op <= impl.LiftEach; op++ {
		for _, size := range []int{2999, 3000, 3001} {
			n := node(impl.LiftBoth, "", ofOp(op), padNode(size-len("both  ")-len(nodeWords(ofOp(op)))))
			if len(nodeWords(n)) != size || impl.LiftOk(n) != (size <= 3000) {
				t.Errorf("op %d: %d bytes, ok %v", op, len(nodeWords(n)), impl.LiftOk(n))
			}
			mustAgree(t, n)
		}
	}
}
