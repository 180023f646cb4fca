// Package impl: values as trees, their schemas, events.
package impl

import (
	"strconv"
	"strings"
)

// Limits of trees.
const (
	TreeMaxNum   = 999999999
	TreeMaxText  = 60
	TreeMaxName  = 8
	TreeMaxList  = 20
	TreeMaxParts = 120
	TreeMaxDeep  = 6
	TreeMaxWrite = 10000
)

// Sorts of trees, and of schemas.
const (
	TreeNum   = 1
	TreeText  = 2
	TreeFlag  = 3
	TreeList  = 4
	TreeForm  = 5
	TreeMaybe = 6
)

// Tree is a value.
type Tree struct {
	Sort  int
	Num   int
	Text  string
	Names []string
	Kids  []Tree
}

// TreeOk says whether a tree is ok.
func TreeOk(t Tree) bool {
	return isOk(t, TreeMaxParts, hasJustItsSort)
}

// TreeParts counts the parts of a tree, itself being one.
func TreeParts(t Tree) int {
	inner, ok := innerTree(t)
	if !ok {
		return 0
	}
	return partsOf(inner)
}

// TreeWrite writes a tree.
func TreeWrite(t Tree) string {
	inner, ok := innerTree(t)
	if !ok {
		return ""
	}
	return string(appendTree(nil, inner))
}

// TreeRead reads a tree.
func TreeRead(text string) (Tree, bool) {
	if len(text) > TreeMaxWrite {
		return Tree{}, false
	}
	inner, ok := caught(newTreeReader(text).whole)
	if !ok {
		return Tree{}, false
	}
	t := outerTree(inner)
	if !TreeOk(t) {
		return Tree{}, false
	}
	return t, true
}

// kidded is whatever has kids that are like itself.
type kidded[T any] interface {
	kids() []T
}

func (t Tree) kids() []Tree { return t.Kids }

// walk shows each part ahead of its kids, and ends at the first that is refused.
func walk[T kidded[T]](part T, level int, accepts func(part T, level int) bool) bool {
	if !accepts(part, level) {
		return false
	}
	for _, kid := range part.kids() {
		if !walk(kid, level+1, accepts) {
			return false
		}
	}
	return true
}

// isOk counts on the way down, so that what has far too many parts, or is a kid
// of itself, is left as soon as it is beyond the bounds.
func isOk[T kidded[T]](top T, maxParts int, accepts func(part T) bool) bool {
	parts := 0
	return walk(top, 1, func(part T, level int) bool {
		parts++
		return parts <= maxParts && level <= TreeMaxDeep && accepts(part)
	})
}

func partsOf[T kidded[T]](top T) int {
	parts := 0
	walk(top, 1, func(T, int) bool {
		parts++
		return true
	})
	return parts
}

// anyTree is a tree inside the program, a type a sort. Beside the one that is
// being read it is only made of what is ok, so that nothing has to be checked
// where it is walked.
type anyTree interface {
	kids() []anyTree
}

type numTree int

type textTree string

type flagTree bool

type listTree []anyTree

type formTree struct {
	names []string
	trees []anyTree
}

// maybeTree has no tree, or one.
type maybeTree []anyTree

func (t numTree) kids() []anyTree   { return nil }
func (t textTree) kids() []anyTree  { return nil }
func (t flagTree) kids() []anyTree  { return nil }
func (t listTree) kids() []anyTree  { return t }
func (t formTree) kids() []anyTree  { return t.trees }
func (t maybeTree) kids() []anyTree { return t }

func appendTree(out []byte, t anyTree) []byte {
	switch x := t.(type) {
	case numTree:
		return strconv.AppendInt(out, int64(x), 10)
	case textTree:
		out = append(out, '"')
		out = append(out, x...)
		return append(out, '"')
	case flagTree:
		return append(out, flagWord(bool(x))...)
	case listTree:
		return appendList(out, x)
	case formTree:
		return appendForm(out, x.names, x.trees, appendTree)
	case maybeTree:
		return appendMaybe(out, x)
	}
	return out
}

func flagWord(yes bool) string {
	if yes {
		return "yes"
	}
	return "no"
}

func appendList(out []byte, t listTree) []byte {
	out = append(out, '[')
	for i, kid := range t {
		if i > 0 {
			out = append(out, ',')
		}
		out = appendTree(out, kid)
	}
	return append(out, ']')
}

// appendForm writes a form of trees, or of schemas.
func appendForm[T any](out []byte, names []string, kids []T, appendKid func([]byte, T) []byte) []byte {
	out = append(out, '{')
	for i, kid := range kids {
		if i > 0 {
			out = append(out, ',')
		}
		out = append(out, names[i]...)
		out = append(out, ':')
		out = appendKid(out, kid)
	}
	return append(out, '}')
}

func appendMaybe(out []byte, t maybeTree) []byte {
	if len(t) == 0 {
		return append(out, '~')
	}
	return appendTree(append(out, '?'), t[0])
}

// outerTree copies texts and names too, as an answer shares no memory with
// what the inner tree was made of.
func outerTree(t anyTree) Tree {
	switch x := t.(type) {
	case numTree:
		return Tree{Sort: TreeNum, Num: int(x)}
	case textTree:
		return Tree{Sort: TreeText, Text: strings.Clone(string(x))}
	case flagTree:
		if x {
			return Tree{Sort: TreeFlag, Num: 1}
		}
		return Tree{Sort: TreeFlag}
	case listTree:
		return Tree{Sort: TreeList, Kids: outerTrees(x)}
	case formTree:
		return Tree{Sort: TreeForm, Names: copyNames(x.names), Kids: outerTrees(x.trees)}
	case maybeTree:
		return Tree{Sort: TreeMaybe, Kids: outerTrees(x)}
	}
	return Tree{}
}

func outerTrees(trees []anyTree) []Tree {
	var out []Tree
	for _, t := range trees {
		out = append(out, outerTree(t))
	}
	return out
}

func copyNames(names []string) []string {
	var out []string
	for _, name := range names {
		out = append(out, strings.Clone(name))
	}
	return out
}

func innerTree(t Tree) (anyTree, bool) {
	if !TreeOk(t) {
		return nil, false
	}
	return madeTree(t), true
}

func madeTree(t Tree) anyTree {
	switch t.Sort {
	case TreeNum:
		return numTree(t.Num)
	case TreeText:
		return textTree(t.Text)
	case TreeFlag:
		return flagTree(t.Num == 1)
	case TreeList:
		return listTree(madeTrees(t.Kids))
	case TreeForm:
		return formTree{names: t.Names, trees: madeTrees(t.Kids)}
	}
	return maybeTree(madeTrees(t.Kids))
}

func madeTrees(trees []Tree) []anyTree {
	var made []anyTree
	for _, t := range trees {
		made = append(made, madeTree(t))
	}
	return made
}

// hasJustItsSort leaves the kids themselves to the one who walks them.
func hasJustItsSort(t Tree) bool {
	leaf := len(t.Names) == 0 && len(t.Kids) == 0
	blank := t.Num == 0 && t.Text == ""
	switch t.Sort {
	case TreeNum:
		return leaf && t.Text == "" && isTreeNum(t.Num)
	case TreeText:
		return leaf && t.Num == 0 && isTreeText(t.Text)
	case TreeFlag:
		return leaf && t.Text == "" && (t.Num == 0 || t.Num == 1)
	case TreeList:
		return blank && len(t.Names) == 0 && len(t.Kids) <= TreeMaxList
	case TreeForm:
		return blank && len(t.Names) == len(t.Kids) && areFormNames(t.Names)
	case TreeMaybe:
		return blank && len(t.Names) == 0 && len(t.Kids) <= 1
	}
	return false
}

func isTreeNum(num int) bool {
	return -TreeMaxNum <= num && num <= TreeMaxNum
}

func isTreeText(text string) bool {
	if len(text) > TreeMaxText {
		return false
	}
	for i := range len(text) {
		if text[i] < 32 || text[i] > 126 || text[i] == '"' {
			return false
		}
	}
	return true
}

func areFormNames(names []string) bool {
	for i, name := range names {
		if !isName(name) || i > 0 && names[i-1] >= name {
			return false
		}
	}
	return true
}

func isName(name string) bool {
	if len(name) < 1 || len(name) > TreeMaxName || isDigit(name[0]) {
		return false
	}
	for i := range len(name) {
		if !isDigit(name[i]) && (name[i] < 'a' || name[i] > 'z') {
			return false
		}
	}
	return true
}

func isDigit(b byte) bool {
	return '0' <= b && b <= '9'
}

// readNum writes the number again, as that alone tells noughts ahead and `-0`
// from the one text that a number has.
func readNum(word string) (int, bool) {
	num, err := strconv.Atoi(word)
	if err != nil || !isTreeNum(num) || strconv.Itoa(num) != word {
		return 0, false
	}
	return num, true
}

// textFault is the panic with which a text is refused.
type textFault struct{}

func demand(holds bool) {
	if !holds {
		panic(textFault{})
	}
}

// caught ends a refusal. Any other panic is a mistake of the program, which
// must not pass for a refusal.
func caught[T any](read func() T) (made T, ok bool) {
	defer func() {
		switch why := recover().(type) {
		case nil, textFault:
		default:
			panic(why)
		}
	}()
	return read(), true
}

// textScan goes through a text from its first byte to its last.
type textScan struct {
	text string
	at   int
}

// until leaves the byte at which it ends to be read.
func (s *textScan) until(end byte) string {
	size := strings.IndexByte(s.text[s.at:], end)
	demand(size >= 0)
	start := s.at
	s.at += size
	return s.text[start:s.at]
}

func (s *textScan) skip(word string) bool {
	if !strings.HasPrefix(s.text[s.at:], word) {
		return false
	}
	s.at += len(word)
	return true
}

func (s *textScan) want(word string) {
	demand(s.skip(word))
}

func (s *textScan) wantEnd() {
	demand(s.at == len(s.text))
}

// readForm reads a form of trees, or of schemas.
func readForm[T any](s *textScan, readKid func() T) (names []string, kids []T) {
	s.want("{")
	for !s.skip("}") {
		if len(names) > 0 {
			s.want(",")
		}
		names = append(names, s.until(':'))
		s.want(":")
		kids = append(kids, readKid())
	}
	return names, kids
}

// treeReader reads a tree from a text; the first byte of a tree tells which
// method reads it. What it reads has the right marks, but need not be ok.
type treeReader struct {
	textScan
	byFirst [256]func() anyTree
}

func newTreeReader(text string) *treeReader {
	r := &treeReader{textScan: textScan{text: text}}
	num, flag, maybe := r.num, r.flag, r.maybe
	for digit := '0'; digit <= '9'; digit++ {
		r.byFirst[digit] = num
	}
	r.byFirst['-'] = num
	r.byFirst['"'] = r.quoted
	r.byFirst['y'], r.byFirst['n'] = flag, flag
	r.byFirst['['] = r.list
	r.byFirst['{'] = r.form
	r.byFirst['~'], r.byFirst['?'] = maybe, maybe
	return r
}

func (r *treeReader) whole() anyTree {
	t := r.tree()
	r.wantEnd()
	return t
}

func (r *treeReader) tree() anyTree {
	demand(r.at < len(r.text))
	read := r.byFirst[r.text[r.at]]
	demand(read != nil)
	return read()
}

func (r *treeReader) num() anyTree {
	start := r.at
	r.skip("-")
	for r.at < len(r.text) && isDigit(r.text[r.at]) {
		r.at++
	}
	num, ok := readNum(r.text[start:r.at])
	demand(ok)
	return numTree(num)
}

func (r *treeReader) quoted() anyTree {
	r.want("\"")
	text := r.until('"')
	r.want("\"")
	return textTree(text)
}

func (r *treeReader) flag() anyTree {
	if r.skip("yes") {
		return flagTree(true)
	}
	r.want("no")
	return flagTree(false)
}

func (r *treeReader) list() anyTree {
	r.want("[")
	var list listTree
	for !r.skip("]") {
		if len(list) > 0 {
			r.want(",")
		}
		list = append(list, r.tree())
	}
	return list
}

func (r *treeReader) form() anyTree {
	names, trees := readForm(&r.textScan, r.tree)
	return formTree{names: names, trees: trees}
}

func (r *treeReader) maybe() anyTree {
	if r.skip("~") {
		return maybeTree(nil)
	}
	r.want("?")
	return maybeTree{r.tree()}
}
