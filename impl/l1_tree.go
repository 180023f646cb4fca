// Package impl: values as trees, their schemas, events.
package impl

import (
	"strconv"
	"strings"
)

// Limits of trees.
const (
	TreeMaxNum   = 999999999
	TreeMaxText  = 60
	TreeMaxName  = 8
	TreeMaxList  = 20
	TreeMaxParts = 120
	TreeMaxDeep  = 6
	TreeMaxWrite = 10000
)

// Sorts of trees, and of schemas.
const (
	TreeNum   = 1
	TreeText  = 2
	TreeFlag  = 3
	TreeList  = 4
	TreeForm  = 5
	TreeMaybe = 6
)

// Tree is a value.
type Tree struct {
	Sort  int
	Num   int
	Text  string
	Names []string
	Kids  []Tree
}

// TreeOk says whether a tree is ok.
func TreeOk(t Tree) bool {
	_, ok := innerTree(t)
	return ok
}

// TreeParts counts the parts of a tree, itself being one.
func TreeParts(t Tree) int {
	inner, ok := innerTree(t)
	if !ok {
		return 0
	}
	return partsOf(inner)
}

// TreeWrite writes a tree.
func TreeWrite(t Tree) string {
	inner, ok := innerTree(t)
	if !ok {
		return ""
	}
	return string(appendTree(nil, inner))
}

// TreeRead reads a tree.
func TreeRead(text string) (Tree, bool) {
	if len(text) > TreeMaxWrite {
		return Tree{}, false
	}
	inner, ok := caughtTree(newTreeReader(text).whole)
	if !ok {
		return Tree{}, false
	}
	return outerTree(inner), true
}

// anyTree is a tree inside the program, a type a sort. It is only made of what
// is ok, so that nothing has to be checked where it is walked.
type anyTree interface {
	kids() []anyTree
}

type numTree int

type textTree string

type flagTree bool

type listTree []anyTree

type formTree struct {
	names []string
	trees []anyTree
}

// maybeTree has no tree, or one.
type maybeTree []anyTree

func (t numTree) kids() []anyTree   { return nil }
func (t textTree) kids() []anyTree  { return nil }
func (t flagTree) kids() []anyTree  { return nil }
func (t listTree) kids() []anyTree  { return t }
func (t formTree) kids() []anyTree  { return t.trees }
func (t maybeTree) kids() []anyTree { return t }

func partsOf(t anyTree) int {
	parts := 1
	for _, kid := range t.kids() {
		parts += partsOf(kid)
	}
	return parts
}

func appendTree(out []byte, t anyTree) []byte {
	switch x := t.(type) {
	case numTree:
		return strconv.AppendInt(out, int64(x), 10)
	case textTree:
		out = append(out, '"')
		out = append(out, x...)
		return append(out, '"')
	case flagTree:
		return append(out, flagWord(bool(x))...)
	case listTree:
		return appendList(out, x)
	case formTree:
		return appendForm(out, x)
	case maybeTree:
		return appendMaybe(out, x)
	}
	return out
}

func flagWord(yes bool) string {
	if yes {
		return "yes"
	}
	return "no"
}

func appendList(out []byte, t listTree) []byte {
	out = append(out, '[')
	for i, kid := range t {
		if i > 0 {
			out = append(out, ',')
		}
		out = appendTree(out, kid)
	}
	return append(out, ']')
}

func appendForm(out []byte, t formTree) []byte {
	out = append(out, '{')
	for i, kid := range t.trees {
		if i > 0 {
			out = append(out, ',')
		}
		out = append(out, t.names[i]...)
		out = append(out, ':')
		out = appendTree(out, kid)
	}
	return append(out, '}')
}

func appendMaybe(out []byte, t maybeTree) []byte {
	if len(t) == 0 {
		return append(out, '~')
	}
	return appendTree(append(out, '?'), t[0])
}

// outerTree copies texts and names too, as an answer shares no memory with
// what the inner tree was made of.
func outerTree(t anyTree) Tree {
	switch x := t.(type) {
	case numTree:
		return Tree{Sort: TreeNum, Num: int(x)}
	case textTree:
		return Tree{Sort: TreeText, Text: strings.Clone(string(x))}
	case flagTree:
		if x {
			return Tree{Sort: TreeFlag, Num: 1}
		}
		return Tree{Sort: TreeFlag}
	case listTree:
		return Tree{Sort: TreeList, Kids: outerTrees(x)}
	case formTree:
		return Tree{Sort: TreeForm, Names: copyNames(x.names), Kids: outerTrees(x.trees)}
	case maybeTree:
		return Tree{Sort: TreeMaybe, Kids: outerTrees(x)}
	}
	return Tree{}
}

func outerTrees(trees []anyTree) []Tree {
	var out []Tree
	for _, t := range trees {
		out = append(out, outerTree(t))
	}
	return out
}

func copyNames(names []string) []string {
	var out []string
	for _, name := range names {
		out = append(out, strings.Clone(name))
	}
	return out
}

// treeFault is the panic with which a tree, or a text of one, is refused.
type treeFault struct{}

func demandTree(holds bool) {
	if !holds {
		panic(treeFault{})
	}
}

// caughtTree ends a refusal. Any other panic is a mistake of the program, which
// must not pass for a refusal.
func caughtTree(build func() anyTree) (t anyTree, ok bool) {
	defer func() {
		switch why := recover().(type) {
		case nil, treeFault:
		default:
			panic(why)
		}
	}()
	return build(), true
}

// treeBounds counts on the way down, so that a tree with far too many parts, or
// one that is a kid of itself, is left as soon as it is beyond them.
type treeBounds struct {
	parts  int
	levels int
}

func (b *treeBounds) enter() {
	b.parts++
	b.levels++
	demandTree(b.parts <= TreeMaxParts && b.levels <= TreeMaxDeep)
}

func (b *treeBounds) leave() {
	b.levels--
}

func innerTree(t Tree) (anyTree, bool) {
	return caughtTree(func() anyTree {
		return new(treeBounds).take(t)
	})
}

func (b *treeBounds) take(t Tree) anyTree {
	b.enter()
	demandTree(hasJustItsSort(t))
	var kids []anyTree
	for _, kid := range t.Kids {
		kids = append(kids, b.take(kid))
	}
	b.leave()
	switch t.Sort {
	case TreeNum:
		return numTree(t.Num)
	case TreeText:
		return textTree(t.Text)
	case TreeFlag:
		return flagTree(t.Num == 1)
	case TreeList:
		return listTree(kids)
	case TreeForm:
		return formTree{names: t.Names, trees: kids}
	case TreeMaybe:
		return maybeTree(kids)
	}
	panic(treeFault{})
}

// hasJustItsSort leaves the kids themselves to the one who walks them.
func hasJustItsSort(t Tree) bool {
	leaf := len(t.Names) == 0 && len(t.Kids) == 0
	blank := t.Num == 0 && t.Text == ""
	switch t.Sort {
	case TreeNum:
		return leaf && t.Text == "" && isTreeNum(t.Num)
	case TreeText:
		return leaf && t.Num == 0 && isTreeText(t.Text)
	case TreeFlag:
		return leaf && t.Text == "" && (t.Num == 0 || t.Num == 1)
	case TreeList:
		return blank && len(t.Names) == 0 && len(t.Kids) <= TreeMaxList
	case TreeForm:
		return blank && len(t.Names) == len(t.Kids) && areFormNames(t.Names)
	case TreeMaybe:
		return blank && len(t.Names) == 0 && len(t.Kids) <= 1
	}
	return false
}

func isTreeNum(num int) bool {
	return -TreeMaxNum <= num && num <= TreeMaxNum
}

func isTreeText(text string) bool {
	if len(text) > TreeMaxText {
		return false
	}
	for i := range len(text) {
		if text[i] < 32 || text[i] > 126 || text[i] == '"' {
			return false
		}
	}
	return true
}

func areFormNames(names []string) bool {
	for i, name := range names {
		if !isName(name) || i > 0 && names[i-1] >= name {
			return false
		}
	}
	return true
}

func isName(name string) bool {
	if len(name) < 1 || len(name) > TreeMaxName || isDigit(name[0]) {
		return false
	}
	for i := range len(name) {
		if !isDigit(name[i]) && (name[i] < 'a' || name[i] > 'z') {
			return false
		}
	}
	return true
}

func isDigit(b byte) bool {
	return '0' <= b && b <= '9'
}

// readNum writes the number again, as that alone tells noughts ahead and `-0`
// from the one text that a number has.
func readNum(word string) (int, bool) {
	num, err := strconv.Atoi(word)
	if err != nil || !isTreeNum(num) || strconv.Itoa(num) != word {
		return 0, false
	}
	return num, true
}

// treeReader reads a tree from a text; the first byte of a tree tells which
// method reads it.
type treeReader struct {
	text    string
	at      int
	bounds  treeBounds
	byFirst [256]func() anyTree
}

func newTreeReader(text string) *treeReader {
	r := &treeReader{text: text}
	num, flag, maybe := r.num, r.flag, r.maybe
	for digit := '0'; digit <= '9'; digit++ {
		r.byFirst[digit] = num
	}
	r.byFirst['-'] = num
	r.byFirst['"'] = r.quoted
	r.byFirst['y'], r.byFirst['n'] = flag, flag
	r.byFirst['['] = r.list
	r.byFirst['{'] = r.form
	r.byFirst['~'], r.byFirst['?'] = maybe, maybe
	return r
}

func (r *treeReader) whole() anyTree {
	t := r.tree()
	demandTree(r.at == len(r.text))
	return t
}

func (r *treeReader) tree() anyTree {
	r.bounds.enter()
	demandTree(r.at < len(r.text))
	read := r.byFirst[r.text[r.at]]
	demandTree(read != nil)
	t := read()
	r.bounds.leave()
	return t
}

func (r *treeReader) num() anyTree {
	start := r.at
	r.skip("-")
	for r.at < len(r.text) && isDigit(r.text[r.at]) {
		r.at++
	}
	num, ok := readNum(r.text[start:r.at])
	demandTree(ok)
	return numTree(num)
}

func (r *treeReader) quoted() anyTree {
	r.want("\"")
	text := r.until('"')
	demandTree(isTreeText(text))
	r.want("\"")
	return textTree(text)
}

func (r *treeReader) flag() anyTree {
	if r.skip("yes") {
		return flagTree(true)
	}
	r.want("no")
	return flagTree(false)
}

func (r *treeReader) list() anyTree {
	r.want("[")
	var list listTree
	for !r.skip("]") {
		if len(list) > 0 {
			r.want(",")
		}
		list = append(list, r.tree())
	}
	demandTree(len(list) <= TreeMaxList)
	return list
}

func (r *treeReader) form() anyTree {
	r.want("{")
	var form formTree
	for !r.skip("}") {
		if len(form.names) > 0 {
			r.want(",")
		}
		form.names = append(form.names, r.until(':'))
		r.want(":")
		form.trees = append(form.trees, r.tree())
	}
	demandTree(areFormNames(form.names))
	return form
}

func (r *treeReader) maybe() anyTree {
	if r.skip("~") {
		return maybeTree(nil)
	}
	r.want("?")
	return maybeTree{r.tree()}
}

// until leaves the byte at which it ends to be read.
func (r *treeReader) until(end byte) string {
	size := strings.IndexByte(r.text[r.at:], end)
	demandTree(size >= 0)
	start := r.at
	r.at += size
	return r.text[start:r.at]
}

func (r *treeReader) skip(word string) bool {
	if !strings.HasPrefix(r.text[r.at:], word) {
		return false
	}
	r.at += len(word)
	return true
}

func (r *treeReader) want(word string) {
	demandTree(r.skip(word))
}
