package tests

import (
	"regexp"
	"slices"
	"strconv"
	"strings"
	"sync"

	"loop.example/tealang/impl"
)

type nodeCase struct {
	what string
	node impl.LiftNode
	text string
}

// node takes its names with spaces between.
func node(op int, names string, kids ...impl.LiftNode) impl.LiftNode {
	return impl.LiftNode{Op: op, Names: strings.Fields(names), Kids: kids}
}

func numNode(n int) impl.LiftNode {
	return impl.LiftNode{Op: impl.LiftNum, Num: n}
}

func textNode(s string) impl.LiftNode {
	return impl.LiftNode{Op: impl.LiftText, Text: s}
}

func flagNode(n int) impl.LiftNode {
	return impl.LiftNode{Op: impl.LiftFlag, Num: n}
}

func nameNode(name string) impl.LiftNode {
	return impl.LiftNode{Op: impl.LiftName, Names: []string{name}}
}

// kindNode is none or empty.
func kindNode(op int, kind string) impl.LiftNode {
	return impl.LiftNode{Op: op, Text: kind}
}

func dropNode() impl.LiftNode {
	return impl.LiftNode{Op: impl.LiftDrop}
}

func failNode(why int) impl.LiftNode {
	return impl.LiftNode{Op: impl.LiftFail, Num: why}
}

func emitNode(value impl.LiftNode) impl.LiftNode {
	return node(impl.LiftEmit, "", value)
}

func sendNode(name string, version int, value impl.LiftNode) impl.LiftNode {
	return impl.LiftNode{Op: impl.LiftSend, Num: version, Names: []string{name}, Kids: []impl.LiftNode{value}}
}

// fieldNames are so many names, ascending.
func fieldNames(n int) []string {
	var out []string
	for i := range n {
		out = append(out, "n"+strconv.Itoa(1000+i))
	}
	return out
}

// formNode has so many names, each with this kid.
func formNode(n int, kid impl.LiftNode) impl.LiftNode {
	return impl.LiftNode{Op: impl.LiftForm, Names: fieldNames(n), Kids: slices.Repeat([]impl.LiftNode{kid}, n)}
}

// formWords is the text of formNode, without its end.
func formWords(n int, kid string) string {
	out := "form"
	for _, name := range fieldNames(n) {
		out += " " + name + " " + kid
	}
	return out
}

// notNode has so many levels.
func notNode(levels int) impl.LiftNode {
	n := flagNode(1)
	for range levels - 1 {
		n = node(impl.LiftNot, "", n)
	}
	return n
}

// sameNode takes the empty list and the nil list as one.
func sameNode(a, b impl.LiftNode) bool {
	return a.Op == b.Op && a.Num == b.Num && a.Text == b.Text &&
		slices.Equal(a.Names, b.Names) && slices.EqualFunc(a.Kids, b.Kids, sameNode)
}

func isNoNode(n impl.LiftNode) bool {
	return sameNode(n, impl.LiftNode{})
}

func nodesOf(n impl.LiftNode) int {
	nodes := 1
	for _, kid := range n.Kids {
		nodes += nodesOf(kid)
	}
	return nodes
}

func nodeLevels(n impl.LiftNode) int {
	levels := 0
	for _, kid := range n.Kids {
		levels = max(levels, nodeLevels(kid))
	}
	return levels + 1
}

// opTable is the document's table of chapter 11, from op 5 on: the words of an op.
var opTable = sync.OnceValue(func() []string {
	return []string{
		"none K", "empty K", "some V", "one V", "add V V", "sub V V", "mul V V", "div V V", "rem V V", "less V V", "same V V",
		"and V V", "or V V", "not V", "if V V V", "let X V V", "get N V", "put N V V", "cut N V", "form F", "at V V", "size V", "join V V", "part V V V",
		"show V", "read V", "else V V", "case X V V V", "map X V V", "keep X V V", "fold X Y V V V",
		"drop", "fail WHY", "emit V", "send N VERSION V", "both A A", "choose V A A", "take X V A", "each X V A",
	}
})

var opWords = sync.OnceValue(func() []string {
	var out []string
	for _, line := range opTable() {
		word, _, _ := strings.Cut(line, " ")
		out = append(out, word)
	}
	return slices.Clip(out)
})

var (
	wordForm   = regexp.MustCompile(`"[^"]*("|$)|[^ \n"][^ \n]*`)
	nameForm   = regexp.MustCompile(`^[a-z][a-z0-9]{0,7}$`)
	numForm    = regexp.MustCompile(`^(0|-?[1-9][0-9]{0,8})$`)
	quotedForm = regexp.MustCompile(`^"[ !#-~]{0,60}"$`)
)

func isBoundName(word string) bool {
	return nameForm.MatchString(word) && !slices.Contains(opWords(), word) && word != "yes" && word != "no" && word != "end"
}

// wanted is what is still to be read into a node.
type wanted struct {
	what  string
	level int
	into  *growing
}

type growing struct {
	impl.LiftNode
	below []*growing
}

func (g *growing) whole() impl.LiftNode {
	n := g.LiftNode
	for _, kid := range g.below {
		n.Kids = append(n.Kids, kid.whole())
	}
	return n
}

// parsed says a second time what the document says of LiftParse: what is wanted lies on a stack.
func parsed(s string) (impl.LiftNode, impl.LiftFault) {
	if len(s) > 3000 {
		return impl.LiftNode{}, impl.LiftFault{Code: impl.LiftTooLong}
	}
	words := wordForm.FindAllString(s, -1)
	top := &growing{}
	stack := []wanted{{"A", 1, top}}
	at, nodes := 0, 0
	for len(stack) > 0 {
		last := stack[len(stack)-1]
		stack = stack[:len(stack)-1]
		if last.what == "V" || last.what == "A" {
			nodes++
			if last.level > 24 {
				return impl.LiftNode{}, impl.LiftFault{Code: impl.LiftTooDeep, At: at}
			}
			if nodes > 200 {
				return impl.LiftNode{}, impl.LiftFault{Code: impl.LiftTooMany, At: at}
			}
		}
		if at == len(words) || !last.stands(words[at]) {
			return impl.LiftNode{}, impl.LiftFault{Code: impl.LiftBadWord, At: at}
		}
		more := last.takes(words[at])
		slices.Reverse(more)
		stack = append(stack, more...)
		at++
	}
	if at < len(words) {
		return impl.LiftNode{}, impl.LiftFault{Code: impl.LiftBadWord, At: at}
	}
	if len(strings.Join(words, " ")) > 3000 {
		return impl.LiftNode{}, impl.LiftFault{Code: impl.LiftTooLong}
	}
	return top.below[0].whole(), impl.LiftFault{}
}

// stands says whether a word can stand where this is wanted.
func (w wanted) stands(word string) bool {
	op := 5 + slices.Index(opWords(), word)
	number, _ := strconv.Atoi(word)
	switch w.what {
	case "A":
		return op >= 36
	case "V":
		return op >= 5 && op < 36 || word == "yes" || word == "no" || isBoundName(word) || numForm.MatchString(word) || quotedForm.MatchString(word)
	case "N":
		return nameForm.MatchString(word)
	case "X":
		return isBoundName(word)
	case "Y":
		return isBoundName(word) && word != w.into.Names[0]
	case "K":
		_, ok := impl.KindRead(word)
		return ok
	case "WHY":
		return numForm.MatchString(word) && 0 <= number && number <= 99
	case "VERSION":
		return numForm.MatchString(word) && 1 <= number && number <= 12
	}
	return word == "end" || nameForm.MatchString(word) && (len(w.into.Names) == 0 || slices.Max(w.into.Names) < word)
}

// takes puts a word that can stand there into the node, and says what is wanted behind it.
func (w wanted) takes(word string) []wanted {
	into := w.into
	switch w.what {
	case "A", "V":
		kid := &growing{}
		into.below = append(into.below, kid)
		return kid.begins(word, w.level)
	case "K":
		into.Text = word
	case "WHY", "VERSION":
		into.Num, _ = strconv.Atoi(word)
	case "F":
		if word == "end" {
			return nil
		}
		into.Names = append(into.Names, word)
		return []wanted{{"V", w.level, into}, w}
	default:
		into.Names = append(into.Names, word)
	}
	return nil
}

func (g *growing) begins(word string, level int) []wanted {
	if place := slices.Index(opWords(), word); place >= 0 {
		g.Op = 5 + place
		var out []wanted
		for _, what := range strings.Fields(opTable()[place])[1:] {
			out = append(out, wanted{what, level + 1, g})
		}
		return out
	}
	switch {
	case word == "yes":
		g.Op, g.Num = impl.LiftFlag, 1
	case word == "no":
		g.Op = impl.LiftFlag
	case word[0] == '"':
		g.Op, g.Text = impl.LiftText, strings.Trim(word, `"`)
	case nameForm.MatchString(word):
		g.Op, g.Names = impl.LiftName, []string{word}
	default:
		g.Op = impl.LiftNum
		g.Num, _ = strconv.Atoi(word)
	}
	return nil
}

// nodeWords is the text of a node by the document's table; of one that is not ok it is whatever is there.
func nodeWords(n impl.LiftNode) string {
	switch n.Op {
	case impl.LiftNum:
		return strconv.Itoa(n.Num)
	case impl.LiftText:
		return `"` + n.Text + `"`
	case impl.LiftFlag:
		return []string{"no", "yes"}[n.Num&1]
	case impl.LiftName:
		return strings.Join(n.Names, " ")
	}
	if n.Op < 5 || n.Op > 43 {
		return "?"
	}
	var out []string
	names, kids := n.Names, n.Kids
	for _, what := range strings.Fields(opTable()[n.Op-5]) {
		switch {
		case what == "K":
			out = append(out, n.Text)
		case what == "WHY" || what == "VERSION":
			out = append(out, strconv.Itoa(n.Num))
		case strings.Contains("NXY", what) && len(names) > 0:
			out = append(out, names[0])
			names = names[1:]
		case strings.Contains("VA", what) && len(kids) > 0:
			out = append(out, nodeWords(kids[0]))
			kids = kids[1:]
		case what == "F":
			for i := range min(len(names), len(kids)) {
				out = append(out, names[i], nodeWords(kids[i]))
			}
			out = append(out, "end")
		default:
			out = append(out, what)
		}
	}
	return strings.Join(out, " ")
}

// isGoodNode says a second time what an action is that is ok: one that its text is read as.
func isGoodNode(n impl.LiftNode) bool {
	read, fault := parsed(nodeWords(n))
	return fault == impl.LiftFault{} && sameNode(read, n)
}
