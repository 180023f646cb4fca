package tests

import (
	"slices"
	"strings"

	"loop.example/tealang/impl"
)

func numKind() impl.Kind {
	return impl.Kind{Sort: impl.TreeNum}
}

func textKind() impl.Kind {
	return impl.Kind{Sort: impl.TreeText}
}

func flagKind() impl.Kind {
	return impl.Kind{Sort: impl.TreeFlag}
}

func listKind(kid impl.Kind) impl.Kind {
	return impl.Kind{Sort: impl.TreeList, Kids: []impl.Kind{kid}}
}

func maybeKind(kid impl.Kind) impl.Kind {
	return impl.Kind{Sort: impl.TreeMaybe, Kids: []impl.Kind{kid}}
}

// formKind takes its names with spaces between.
func formKind(names string, kids ...impl.Kind) impl.Kind {
	return impl.Kind{Sort: impl.TreeForm, Names: strings.Fields(names), Kids: kids}
}

// nestedKind has so many levels, by forms, maybes and lists in turn.
func nestedKind(levels int) impl.Kind {
	k := numKind()
	for i := 1; i < levels; i++ {
		switch i % 3 {
		case 0:
			k = listKind(k)
		case 1:
			k = formKind("a", k)
		case 2:
			k = maybeKind(k)
		}
	}
	return k
}

// wideKind is a form of so many names of 8 bytes, each with this kid.
func wideKind(n int, kid impl.Kind) impl.Kind {
	return impl.Kind{Sort: impl.TreeForm, Names: wide(n, num(0)).Names, Kids: slices.Repeat([]impl.Kind{kid}, n)}
}

// sameKind takes the empty list and the nil list as one.
func sameKind(a, b impl.Kind) bool {
	return a.Sort == b.Sort && slices.Equal(a.Names, b.Names) && slices.EqualFunc(a.Kids, b.Kids, sameKind)
}

func isNoKind(k impl.Kind) bool {
	return sameKind(k, impl.Kind{})
}

func kindLevels(k impl.Kind) int {
	most := 0
	for _, kid := range k.Kids {
		most = max(most, kindLevels(kid))
	}
	return 1 + most
}

func kindParts(k impl.Kind) int {
	parts := 1
	for _, kid := range k.Kids {
		parts += kindParts(kid)
	}
	return parts
}
