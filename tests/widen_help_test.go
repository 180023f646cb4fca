package tests

import (
	"slices"

	"loop.example/tealang/impl"
)

// fitsInto says what chapter 3 says, of what is ok.
func fitsInto(from, to impl.Kind) bool {
	if to.Sort == impl.TreeMaybe {
		return fitsInto(withoutMaybe(from), to.Kids[0])
	}
	if from.Sort != to.Sort {
		return false
	}
	switch to.Sort {
	case impl.TreeList:
		return fitsInto(from.Kids[0], to.Kids[0])
	case impl.TreeForm:
		return formFitsInto(from, to)
	}
	return true
}

func withoutMaybe(k impl.Kind) impl.Kind {
	if k.Sort == impl.TreeMaybe {
		return k.Kids[0]
	}
	return k
}

func formFitsInto(from, to impl.Kind) bool {
	for i, name := range from.Names {
		at := slices.Index(to.Names, name)
		if at < 0 || !fitsInto(from.Kids[i], to.Kids[at]) {
			return false
		}
	}
	for i, name := range to.Names {
		if !slices.Contains(from.Names, name) && to.Kids[i].Sort != impl.TreeMaybe {
			return false
		}
	}
	return true
}

// widened says what chapter 3 says, of a tree of from, which fits into to; it may have too many parts.
func widened(from, to impl.Kind, x impl.Tree) impl.Tree {
	switch {
	case to.Sort == impl.TreeMaybe && from.Sort != impl.TreeMaybe:
		return maybe(widened(from, to.Kids[0], x))
	case to.Sort == impl.TreeForm:
		out := impl.Tree{Sort: impl.TreeForm, Names: to.Names}
		for i, name := range to.Names {
			kid := maybe()
			if at := slices.Index(from.Names, name); at >= 0 {
				kid = widened(from.Kids[at], to.Kids[i], x.Kids[at])
			}
			out.Kids = append(out.Kids, kid)
		}
		return out
	case to.Sort == impl.TreeMaybe || to.Sort == impl.TreeList:
		out := impl.Tree{Sort: to.Sort}
		for _, kid := range x.Kids {
			out.Kids = append(out.Kids, widened(from.Kids[0], to.Kids[0], kid))
		}
		return out
	}
	return x
}

// joined says what chapter 3 says, of what is ok; what comes of it need not be.
func joined(a, b impl.Kind) (impl.Kind, bool) {
	if a.Sort == impl.TreeMaybe || b.Sort == impl.TreeMaybe {
		kid, ok := joined(withoutMaybe(a), withoutMaybe(b))
		return maybeKind(kid), ok
	}
	if a.Sort != b.Sort {
		return impl.Kind{}, false
	}
	switch a.Sort {
	case impl.TreeList:
		kid, ok := joined(a.Kids[0], b.Kids[0])
		return listKind(kid), ok
	case impl.TreeForm:
		return joinedForm(a, b)
	}
	return a, true
}

func joinedForm(a, b impl.Kind) (impl.Kind, bool) {
	out := impl.Kind{Sort: impl.TreeForm, Names: slices.Concat(a.Names, b.Names)}
	slices.Sort(out.Names)
	out.Names = slices.Compact(out.Names)
	for _, name := range out.Names {
		inA, inB := slices.Index(a.Names, name), slices.Index(b.Names, name)
		switch {
		case inA < 0:
			out.Kids = append(out.Kids, maybeKind(withoutMaybe(b.Kids[inB])))
		case inB < 0:
			out.Kids = append(out.Kids, maybeKind(withoutMaybe(a.Kids[inA])))
		default:
			kid, ok := joined(a.Kids[inA], b.Kids[inB])
			if !ok {
				return impl.Kind{}, false
			}
			out.Kids = append(out.Kids, kid)
		}
	}
	return out, true
}

// smallKinds are all schemas of at most so many parts, of numbers, texts, lists, maybes and forms of the names a and b.
func smallKinds(parts int) []impl.Kind {
	var all []impl.Kind
	for size := 1; size <= parts; size++ {
		all = append(all, kindsOfParts(size)...)
	}
	return all
}

func kindsOfParts(parts int) []impl.Kind {
	if parts == 1 {
		return []impl.Kind{numKind(), textKind(), formKind("")}
	}
	var all []impl.Kind
	for _, kid := range kindsOfParts(parts - 1) {
		all = append(all, listKind(kid), maybeKind(kid), formKind("a", kid), formKind("b", kid))
	}
	for size := 1; size < parts-1; size++ {
		for _, a := range kindsOfParts(size) {
			for _, b := range kindsOfParts(parts - 1 - size) {
				all = append(all, formKind("a b", a, b))
			}
		}
	}
	return all
}

// someTrees are trees of a schema, each with lists of one size, all maybes of it being nothing, or none.
func someTrees(k impl.Kind) []impl.Tree {
	var all []impl.Tree
	for size := range 3 {
		all = append(all, treeOfSize(k, size, 0), treeOfSize(k, size, 1))
	}
	return all
}

func treeOfSize(k impl.Kind, listed, had int) impl.Tree {
	x := firstOf(k)
	switch k.Sort {
	case impl.TreeNum:
		x.Num = listed - 1
	case impl.TreeText:
		x.Text = "x"
	case impl.TreeList:
		x.Kids = times(listed, treeOfSize(k.Kids[0], listed, had))
	case impl.TreeMaybe:
		x.Kids = times(had, treeOfSize(k.Kids[0], listed, had))
	case impl.TreeForm:
		for i, kid := range k.Kids {
			x.Kids[i] = treeOfSize(kid, listed, had)
		}
	}
	return x
}

// wider is a schema into which this one fits, but may have too many levels or parts.
func (g grower) wider(k impl.Kind) impl.Kind {
	switch {
	case k.Sort == impl.TreeMaybe:
		return maybeKind(g.wider(k.Kids[0]))
	case g.Intn(5) == 0:
		return maybeKind(g.wider(k))
	case k.Sort == impl.TreeList:
		return listKind(g.wider(k.Kids[0]))
	case k.Sort == impl.TreeForm:
		return g.widerForm(k)
	}
	return k
}

func (g grower) widerForm(k impl.Kind) impl.Kind {
	fields := map[string]impl.Kind{}
	for _, name := range g.names() {
		if g.Intn(3) == 0 {
			fields[name] = maybeKind(g.kind(1 + g.Intn(2)))
		}
	}
	for i, name := range k.Names {
		fields[name] = g.wider(k.Kids[i])
	}
	return formOf(fields)
}

func formOf(fields map[string]impl.Kind) impl.Kind {
	out := impl.Kind{Sort: impl.TreeForm}
	for name := range fields {
		out.Names = append(out.Names, name)
	}
	slices.Sort(out.Names)
	for _, name := range out.Names {
		out.Kids = append(out.Kids, fields[name])
	}
	return out
}

// narrower is a schema that fits into this one.
func (g grower) narrower(k impl.Kind) impl.Kind {
	switch {
	case k.Sort == impl.TreeMaybe && g.Intn(2) == 0:
		return g.narrower(k.Kids[0])
	case k.Sort == impl.TreeMaybe:
		return maybeKind(g.narrower(k.Kids[0]))
	case k.Sort == impl.TreeList:
		return listKind(g.narrower(k.Kids[0]))
	case k.Sort == impl.TreeForm:
		fields := map[string]impl.Kind{}
		for i, name := range k.Names {
			if k.Kids[i].Sort != impl.TreeMaybe || g.Intn(2) == 0 {
				fields[name] = g.narrower(k.Kids[i])
			}
		}
		return formOf(fields)
	}
	return k
}
