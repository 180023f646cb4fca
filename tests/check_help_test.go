package tests

import (
	"math"
	"slices"
	"strconv"
	"strings"
	"sync"
	"testing"

	"loop.example/tealang/impl"
)

// valueOf reads the text of a value.
func valueOf(s string) impl.LiftNode {
	n, fault := impl.LiftParse("emit " + s)
	if fault != (impl.LiftFault{}) {
		panic(s + ": fault " + strconv.Itoa(fault.Code) + " at " + strconv.Itoa(fault.At))
	}
	return n.Kids[0]
}

// actionOf reads the text of an action.
func actionOf(s string) impl.LiftNode {
	n, fault := impl.LiftParse(s)
	if fault != (impl.LiftFault{}) {
		panic(s + ": fault " + strconv.Itoa(fault.Code) + " at " + strconv.Itoa(fault.At))
	}
	return n
}

func kindOf(s string) impl.Kind {
	k, ok := impl.KindRead(s)
	if !ok {
		panic(s + " is no schema")
	}
	return k
}

// varsOf takes names and the texts of their schemas, with spaces between.
func varsOf(s string) []impl.LiftVar {
	var out []impl.LiftVar
	for pair := range slices.Chunk(strings.Fields(s), 2) {
		out = append(out, impl.LiftVar{Name: pair[0], Kind: kindOf(pair[1])})
	}
	return out
}

// sinksOf takes the text of a schema each, behind a name and a version, if it is that of a send.
func sinksOf(all ...string) []impl.LiftSink {
	var out []impl.LiftSink
	for _, s := range all {
		words := strings.Fields(s)
		sink := impl.LiftSink{Kind: kindOf(words[len(words)-1])}
		if len(words) == 3 {
			sink.Name = words[0]
			sink.Version, _ = strconv.Atoi(words[1])
		}
		out = append(out, sink)
	}
	return out
}

// told is a fault as the cases have it: `6@2` is the code 6 at 2.
func told(fault impl.LiftFault) string {
	return strconv.Itoa(fault.Code) + "@" + strconv.Itoa(fault.At)
}

// mustAnswer takes the text of the value's schema, or the fault.
func mustAnswer(t *testing.T, vars []impl.LiftVar, s string, answer string) {
	t.Helper()
	k, fault := impl.LiftKind(vars, valueOf(s))
	got := impl.KindWrite(k)
	if fault != (impl.LiftFault{}) {
		got += told(fault)
	}
	if got != answer || !impl.KindOk(k) && !isNoKind(k) {
		t.Errorf("%s: %s, not %s", s, got, answer)
	}
}

// mustCheck takes the fault; `0@0`, if there is none.
func mustCheck(t *testing.T, from string, sinks []impl.LiftSink, s string, answer string) {
	t.Helper()
	if got := told(impl.LiftCheck(kindOf(from), sinks, actionOf(s))); got != answer {
		t.Errorf("%s: %s, not %s", s, got, answer)
	}
}

// kindRules is the document's table of chapter 12, an op a line: what each kid must be, and what comes of it. A number is the schema
// of that kid, from 1 on, `in1` what stands within the first one's; `=` is the same as that, `sink` as the sink's. Behind a `/` is
// what the names of the node are bound to for this kid.
var kindRules = sync.OnceValue(func() map[string][]string {
	rules := map[string][]string{}
	for line := range strings.Lines(`some any : ?1
one any : [1]
add num num : num
sub num num : num
mul num num : num
div num num : num
rem num num : num
less num|text =1 : flag
same any =1 : flag
and flag flag : flag
or flag flag : flag
not flag : flag
if flag any =2 : 2
let any any/1 : 2
get form : FIELD
put form any : PUT
cut form : CUT
at list num : in1
size list|text : num
join list|text =1 : 1
part list|text num num : 1
show num : text
read text : ?num
else maybe =in1 : 2
case maybe any/in1 =2 : 2
map list any/in1 : [2]
keep list flag/in1 : 1
fold list any =2/2,in1 : 2
emit sink :
send sink :
both any any :
choose flag any any :
take any any/1 :
each list any/in1 :
drop :
fail :
`) {
		words := strings.Fields(line)
		rules[words[0]] = words[1:]
	}
	return rules
})

// nameBound is a name and the text of its schema.
type nameBound struct {
	name, kind string
}

// judge says a second time what the document says of LiftKind and LiftCheck; schemas are texts to it.
type judge struct {
	sinks []impl.LiftSink
}

// look is of a node whose place is at.
func (j judge) look(n impl.LiftNode, at int, bound []nameBound) (string, impl.LiftFault) {
	if n.Op <= impl.LiftEmpty {
		return j.leaf(n, at, bound)
	}
	rule := []string{"ANY", ":", "FORM"}
	if n.Op != impl.LiftForm {
		rule = kindRules()[opWords()[n.Op-5]]
	}
	sink := ""
	if n.Op == impl.LiftEmit || n.Op == impl.LiftSend {
		if sink = j.sink(n); sink == "" {
			return "", impl.LiftFault{Code: impl.LiftUnknown, At: at}
		}
	}
	var kinds []string
	place := at + 1
	for i, kid := range n.Kids {
		want, binds, _ := strings.Cut(rule[min(i, len(rule)-1)], "/")
		inner := slices.Clone(bound)
		for k, of := range strings.FieldsFunc(binds, func(r rune) bool { return r == ',' }) {
			inner = append(inner, nameBound{n.Names[k], meant(of, kinds)})
		}
		kind, fault := j.look(kid, place, inner)
		if fault != (impl.LiftFault{}) {
			return "", fault
		}
		if n.Op != impl.LiftForm && !isWanted(want, kind, kinds, sink) {
			return "", impl.LiftFault{Code: impl.LiftWrong, At: place}
		}
		kinds = append(kinds, kind)
		place += nodesOf(kid)
	}
	result := rule[len(rule)-1]
	if result == ":" {
		return "", impl.LiftFault{}
	}
	kind, code := made(result, n, kinds)
	if code == 0 && !isKindText(kind) {
		code = impl.LiftBigKind
	}
	if code != 0 {
		return "", impl.LiftFault{Code: code, At: at}
	}
	return kind, impl.LiftFault{}
}

func isKindText(s string) bool {
	_, ok := impl.KindRead(s)
	return ok
}

func (j judge) leaf(n impl.LiftNode, at int, bound []nameBound) (string, impl.LiftFault) {
	kind := ""
	switch n.Op {
	case impl.LiftNum:
		return "num", impl.LiftFault{}
	case impl.LiftText:
		return "text", impl.LiftFault{}
	case impl.LiftFlag:
		return "flag", impl.LiftFault{}
	case impl.LiftNone:
		kind = "?" + n.Text
	case impl.LiftEmpty:
		kind = "[" + n.Text + "]"
	case impl.LiftName:
		for _, b := range bound {
			if b.name == n.Names[0] {
				kind = b.kind
			}
		}
		if kind == "" {
			return "", impl.LiftFault{Code: impl.LiftUnknown, At: at}
		}
	}
	if !isKindText(kind) {
		return "", impl.LiftFault{Code: impl.LiftBigKind, At: at}
	}
	return kind, impl.LiftFault{}
}

func (j judge) sink(n impl.LiftNode) string {
	for _, sink := range j.sinks {
		if sink.Name == strings.Join(n.Names, "") && sink.Version == n.Num {
			return impl.KindWrite(sink.Kind)
		}
	}
	return ""
}

func isWanted(want, kind string, kinds []string, sink string) bool {
	for _, one := range strings.Split(want, "|") {
		switch {
		case one == "any" || one == kind:
			return true
		case one == "list" && kind[0] == '[' || one == "form" && kind[0] == '{' || one == "maybe" && kind[0] == '?':
			return true
		case one[0] == '=' && kind == meant(one[1:], kinds):
			return true
		case one == "sink" && kind == sink:
			return true
		}
	}
	return false
}

// meant is the schema that a word of the table means.
func meant(word string, kinds []string) string {
	switch {
	case word == "in1" && kinds[0][0] == '?':
		return kinds[0][1:]
	case word == "in1":
		return kinds[0][1 : len(kinds[0])-1]
	case word == "1" || word == "2":
		return kinds[word[0]-'1']
	case word[0] == '?':
		return "?" + meant(word[1:], kinds)
	case word[0] == '[':
		return "[" + meant(word[1:len(word)-1], kinds) + "]"
	}
	return word
}

func made(result string, n impl.LiftNode, kinds []string) (string, int) {
	fields := map[string]impl.Kind{}
	switch result {
	case "FORM":
		for i, name := range n.Names {
			fields[name] = kindOf(kinds[i])
		}
		return impl.KindWrite(formOf(fields)), 0
	case "FIELD", "PUT", "CUT":
		form := kindOf(kinds[0])
		for i, name := range form.Names {
			fields[name] = form.Kids[i]
		}
		if _, had := fields[n.Names[0]]; !had && result != "PUT" {
			return "", impl.LiftNoField
		}
	}
	switch result {
	case "FIELD":
		return impl.KindWrite(fields[n.Names[0]]), 0
	case "CUT":
		delete(fields, n.Names[0])
		return impl.KindWrite(formOf(fields)), 0
	case "PUT":
		fields[n.Names[0]] = kindOf(kinds[1])
		return impl.KindWrite(formOf(fields)), 0
	}
	return meant(result, kinds), 0
}

// kindAsSaid is what LiftKind must answer of a value that is ok, and of vars that are.
func kindAsSaid(vars []impl.LiftVar, n impl.LiftNode) (string, impl.LiftFault) {
	var bound []nameBound
	for _, v := range vars {
		bound = append(bound, nameBound{v.Name, impl.KindWrite(v.Kind)})
	}
	return judge{}.look(n, 0, bound)
}

// checkAsSaid is what LiftCheck must answer of an action that is ok, of a from and of sinks that are.
func checkAsSaid(from impl.Kind, sinks []impl.LiftSink, n impl.LiftNode) impl.LiftFault {
	_, fault := judge{sinks}.look(n, 0, []nameBound{{"old", impl.KindWrite(from)}})
	switch {
	case fault != impl.LiftFault{}:
		return fault
	case costAsSaid(n) > 40000:
		return impl.LiftFault{Code: impl.LiftCostly}
	case fanAsSaid(n) > 400:
		return impl.LiftFault{Code: impl.LiftWide}
	}
	return impl.LiftFault{}
}

// costAsSaid is cut at the very end alone.
func costAsSaid(n impl.LiftNode) int {
	return int(math.Min(wholeCost(n), 40001))
}

func wholeCost(n impl.LiftNode) float64 {
	cost := 1.0
	for i, kid := range n.Kids {
		often := 1.0
		if i == 1 && slices.Contains([]int{impl.LiftMap, impl.LiftKeep, impl.LiftEach}, n.Op) || i == 2 && n.Op == impl.LiftFold {
			often = 20
		}
		cost += often * wholeCost(kid)
	}
	return cost
}

// fanAsSaid is cut at the very end alone.
func fanAsSaid(n impl.LiftNode) int {
	return int(math.Min(wholeFan(n), 401))
}

func wholeFan(n impl.LiftNode) float64 {
	switch n.Op {
	case impl.LiftEmit, impl.LiftSend:
		return 1
	case impl.LiftBoth:
		return wholeFan(n.Kids[0]) + wholeFan(n.Kids[1])
	case impl.LiftChoose:
		return math.Max(wholeFan(n.Kids[1]), wholeFan(n.Kids[2]))
	case impl.LiftTake:
		return wholeFan(n.Kids[1])
	case impl.LiftEach:
		return 20 * wholeFan(n.Kids[1])
	}
	return 0
}
