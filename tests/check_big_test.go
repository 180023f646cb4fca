package tests

import (
	"testing"

	"loop.example/tealang/impl"
)

// bigVars are named by their parts or levels: p39 has so many parts, v5 so many levels; l39 and l5 are lists with so many in all.
func bigVars() []impl.LiftVar {
	return []impl.LiftVar{
		{Name: "p38", Kind: wideKind(37, numKind())},
		{Name: "p39", Kind: wideKind(38, numKind())},
		{Name: "p40", Kind: wideKind(39, numKind())},
		{Name: "v5", Kind: nestedKind(5)},
		{Name: "v6", Kind: nestedKind(6)},
		{Name: "l39", Kind: listKind(wideKind(37, numKind()))},
		{Name: "l5", Kind: listKind(nestedKind(4))},
		{Name: "o", Kind: formKind("a", nestedKind(5))},
		{Name: "n", Kind: numKind()},
		{Name: "l", Kind: listKind(numKind())},
	}
}

// Schemas just at the limits of schemas, and one beyond them: by parts and by levels, of each op that makes one.
func TestCheckBigKinds(t *testing.T) {
	for s, at := range map[string]int{
		"p40": -1, "v6": -1, "let x p40 x": -1, "let x v6 x": -1, "if yes p40 p40": -1,
		"some p39": -1, "some p40": 0, "some v5": -1, "some v6": 0, "some some v5": 0, "some some p39": 0,
		"one p39": -1, "one p40": 0, "one v5": -1, "one v6": 0, "one some v5": 0, "one some p39": 0, "some one p38": -1, "some some one p38": 0,
		"form a p39 end": -1, "form a p40 end": 0, "form a v5 end": -1, "form a v6 end": 0, "form a p38 b n end": -1, "form a p38 b n c n end": 0, "form a p39 b n end": 0, "form a n b form end c v5 end": -1, "form a n b form end c v6 end": 0,
		"put zz p39 n": -1, "put zz p40 n": 0, "put abcdea00 p40 n": -1, "put abcdea00 p40 l": 0, "put abcdea00 p39 l": -1, "put zz p38 l": -1, "put zz p39 l": 0, "put a form end v5": -1, "put a form end v6": 0, "put zz form end p39": -1, "put zz form end p40": 0, "put a put b form end p39 n": 0, "put b put b form end p39 n": -1,
		"map x l p39": -1, "map x l p40": 0, "map x l v5": -1, "map x l v6": 0, "map x l39 x": -1, "map x l39 some x": -1, "map x l39 some some x": 0, "map x l5 x": -1, "map x l5 one x": -1, "map x l5 one one x": 0,
		"cut abcdea00 p40": -1, "cut abcdea00 put abcdea00 p40 l": 1, "put zz cut abcdea00 p40 n": -1, "put zz cut abcdea00 p40 l": 0,
		"get abcdea00 p40": -1, "get a o": -1, "some get a o": -1, "some some get a o": 0, "get a form a v6 end": 1, "get a form a v5 end": -1, "get a form a p40 end": 1,
		"keep x l39 yes": -1, "join l39 l39": -1, "fold a x l p40 a": -1, "fold a x l p40 some a": 3, "case x some p39 x p39": -1, "case x some p40 x p40": 1, "else some p39 p39": -1,
		"let x some p39 some x": 3, "add n size one p40": 3, "same p40 p40": -1, "same some p40 some p40": 1,
	} {
		n := valueOf(s)
		k, fault := impl.LiftKind(bigVars(), n)
		want, wantFault := kindAsSaid(bigVars(), n)
		if impl.KindWrite(k) != want || fault != wantFault {
			t.Errorf("%s: %s, %v, not %s, %v", s, impl.KindWrite(k), fault, want, wantFault)
		}
		if at < 0 && fault.Code != 0 || at >= 0 && fault != (impl.LiftFault{Code: impl.LiftBigKind, At: at}) {
			t.Errorf("%s: %v", s, fault)
		}
	}
}

// `none` and `empty` of a schema that is ok, but not with one part or level more.
func TestCheckBigNoneAndEmpty(t *testing.T) {
	for levels := 1; levels <= 6; levels++ {
		for parts := 2; parts <= 40; parts += 19 {
			deep, wide := nestedKind(levels), wideKind(parts-1, numKind())
			for op, sort := range map[int]int{impl.LiftNone: impl.TreeMaybe, impl.LiftEmpty: impl.TreeList} {
				for _, kid := range []impl.Kind{deep, wide} {
					all := impl.Kind{Sort: sort, Kids: []impl.Kind{kid}}
					n := kindNode(op, impl.KindWrite(kid))
					k, fault := impl.LiftKind(nil, n)
					switch {
					case kindLevels(all) <= 6 && kindParts(all) <= 40:
						if fault != (impl.LiftFault{}) || !sameKind(k, all) {
							t.Errorf("%s: %v", nodeWords(n), fault)
						}
					case fault != impl.LiftFault{Code: impl.LiftBigKind} || !isNoKind(k):
						t.Errorf("%s: %v, %v", nodeWords(n), k, fault)
					}
				}
			}
		}
	}
	mustAnswer(t, nil, "none ?????num", "7@0")
	mustAnswer(t, nil, "none ????num", "?????num")
	mustAnswer(t, nil, "empty [[[[[num]]]]]", "7@0")
	mustAnswer(t, nil, "empty [[[[num]]]]", "[[[[[num]]]]]")
	mustAnswer(t, nil, "size empty [[[[[num]]]]]", "7@1")
	mustAnswer(t, nil, "add size empty [[[[num]]]] size empty [[[[[num]]]]]", "7@4")
	mustAnswer(t, nil, "else none ?????num none ????num", "7@1")
	mustAnswer(t, nil, "some none ????num", "7@0")
	mustAnswer(t, nil, "form a none ????num end", "7@0")
}

// A form of so many fields.
func TestCheckBigForms(t *testing.T) {
	for names := 0; names <= 199; names++ {
		n := formNode(names, numNode(1))
		k, fault := impl.LiftKind(nil, n)
		if names <= 39 && (fault.Code != 0 || len(k.Names) != names) || names > 39 && fault != (impl.LiftFault{Code: impl.LiftBigKind}) {
			t.Errorf("%d names: %v, %v", names, k.Names, fault)
		}
	}
	deep := numNode(1)
	for levels := 1; levels <= 20; levels++ {
		_, fault := impl.LiftKind(nil, deep)
		want := impl.LiftFault{}
		if levels > 6 {
			want = impl.LiftFault{Code: impl.LiftBigKind, At: levels - 7}
		}
		if fault != want {
			t.Errorf("%d levels: %v, not %v", levels, fault, want)
		}
		deep = node(impl.LiftForm, "a", deep)
	}
}

// A schema that is too big within an upcaster, and one that is just not.
func TestCheckBigInActions(t *testing.T) {
	from := impl.KindWrite(formKind("l v w", listKind(numKind()), nestedKind(5), listKind(nestedKind(4))))
	for s, answer := range map[string]string{
		"take x get v old drop": "0@0", "take x some get v old drop": "0@0", "take x some some get v old drop": "7@1", "take x 1 take y one one get v old drop": "7@3",
		"each x get w old take y one one x drop": "0@0", "each x get w old take y one one one x drop": "7@4", "each x map y get w old one one y drop": "7@1", "each x map y get w old one y drop": "0@0",
		"emit some some get v old": "7@1", "send t 1 some some get v old": "7@1", "choose same some get v old some some get v old drop drop": "7@5",
	} {
		mustCheck(t, from, sinksOf("{}", "t 1 {}"), s, answer)
	}
}
