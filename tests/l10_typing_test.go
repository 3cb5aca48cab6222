package tests

import (
	"fmt"
	"math/rand"
	"reflect"
	"slices"
	"strings"
	"sync"
	"testing"

	"loop.example/g00592/impl"
)

func typeOfText(t *testing.T, s string) impl.Type {
	t.Helper()
	x, ok := impl.ParseType(s)
	if !ok {
		t.Fatalf("%q is no type", s)
	}
	return x
}

func opticOfText(t *testing.T, s string) impl.Optic {
	t.Helper()
	o, ok := impl.ParseOptic(s)
	if !ok {
		t.Fatalf("%q is no optic", s)
	}
	return o
}

// isTypeBy is the definition of IsValidType.
func isTypeBy(x impl.Type) bool {
	size, depth := sizeAndDepth(x)
	return size <= mostTypeSize && depth <= mostTypeDepth && areTypeNodes(x)
}

func areTypeNodes(x impl.Type) bool {
	for _, arg := range x.Args {
		if !areTypeNodes(arg) {
			return false
		}
	}
	switch x.Kind {
	case 1, 2:
		return len(x.Labels) == 0 && len(x.Args) == 0
	case 3, 4:
		return areLabelTexts(x.Labels) && len(x.Args) == len(x.Labels)
	case 5:
		return len(x.Labels) == 0 && len(x.Args) == 1
	}
	return false
}

// typeBy is the definition of OpticType, by the words of chapter 10; the kind is 0 where it fails.
func typeBy(s impl.Type, o impl.Optic) (impl.Type, int) {
	if !isTypeBy(s) || !isOpticBy(o) {
		return impl.Type{}, 0
	}
	focus, kind := leafTypeBy(s, o)
	if o.Kind > 10 {
		focus, kind = composedTypeBy(s, o)
	}
	if kind == 0 || !isTypeBy(focus) {
		return impl.Type{}, 0
	}
	return focus, kind
}

func leafTypeBy(s impl.Type, o impl.Optic) (impl.Type, int) {
	label := slices.Index(s.Labels, o.Name)
	switch {
	case o.Kind == 1, o.Kind == 7 && s.Kind == 1, o.Kind == 8 && s.Kind == 2, o.Kind == 9 && s.Kind == 5:
		return s, 1
	case o.Kind == 2 && s.Kind == 3 && label >= 0:
		return s.Args[label], 2
	case o.Kind == 3 && s.Kind == 4 && label >= 0:
		return s.Args[label], 3
	case o.Kind == 4 && s.Kind == 5:
		return s.Args[0], 5
	case o.Kind == 5 && s.Kind == 3:
		for _, arg := range s.Args {
			if !sameType(arg, s.Args[0]) {
				return impl.Type{}, 0
			}
		}
		return s.Args[0], 5
	case o.Kind == 6 && s.Kind == 5:
		return s.Args[0], 4
	case o.Kind == 10:
		return recType(o.Name, s), 1
	}
	return impl.Type{}, 0
}

func composedTypeBy(s impl.Type, o impl.Optic) (impl.Type, int) {
	switch o.Kind {
	case 11:
		if s.Kind == 5 {
			if element, kind := typeBy(s.Args[0], o.Args[0]); kind == 1 {
				return listType(element), 1
			}
		}
	case 12:
		outer, first := typeBy(s, o.Args[0])
		inner, second := typeBy(outer, o.Args[1])
		return inner, joinBy(first, second)
	case 13:
		a, first := typeBy(s, o.Args[0])
		b, second := typeBy(s, o.Args[1])
		if isWithinBy(first, 4) && isWithinBy(second, 4) && sameType(a, b) {
			return a, 4
		}
	}
	return impl.Type{}, 0
}

// checkTyping checks OpticType and IsTyped; a kind of 0 is for optics that do not fit.
func checkTyping(t *testing.T, s impl.Type, o impl.Optic, focus impl.Type, kind int) {
	t.Helper()
	gotFocus, gotKind, ok := impl.OpticType(s, o)
	if ok != (kind != 0) || gotKind != kind || !sameType(gotFocus, focus) {
		t.Errorf("OpticType(%v, %v) is %v, %d, %v, want %v, %d", s, o, gotFocus, gotKind, ok, focus, kind)
	}
	if impl.IsTyped(s, o) != (kind != 0) {
		t.Errorf("IsTyped(%v, %v) is %v", s, o, kind == 0)
	}
}

// checkUnfit checks that an optic has no type for a source, nor as a part of others.
func checkUnfit(t *testing.T, s impl.Type, o impl.Optic) {
	t.Helper()
	for _, x := range []impl.Optic{o, thenOptic(idOptic(), o), thenOptic(o, idOptic()), elseOptic(o, o), elseOptic(idOptic(), o), elseOptic(o, idOptic())} {
		checkTyping(t, s, x, impl.Type{}, 0)
	}
	checkTyping(t, listType(s), mapOptic(o), impl.Type{}, 0)
	checkTyping(t, listType(s), thenOptic(impl.Optic{Kind: 4}, o), impl.Type{}, 0)
	checkTyping(t, recType("k v", s, s), thenOptic(fieldOptic("k"), o), impl.Type{}, 0)
}

// A typingRow is an optic for a source of a type, with the kind and the type of its foci; "" if it does not fit.
type typingRow struct {
	source string
	optic  string
	want   string
}

func checkTypingRows(t *testing.T, rows []typingRow) {
	t.Helper()
	for _, row := range rows {
		s, o := typeOfText(t, row.source), opticOfText(t, row.optic)
		if row.want == "" {
			checkUnfit(t, s, o)
			continue
		}
		kind, focus, _ := strings.Cut(row.want, " ")
		number := 1 + slices.Index([]string{"iso", "lens", "prism", "affine", "traversal"}, kind)
		checkTyping(t, s, o, typeOfText(t, focus), number)
	}
}

func TestOpticTypeOfParts(t *testing.T) {
	checkTypingRows(t, []typingRow{
		{"I", "id", "iso I"}, {"B", "id", "iso B"}, {"{a:I,b:[B]}", "id", "iso {a:I,b:[B]}"}, {"<p:I,q:{a:B}>", "id", "iso <p:I,q:{a:B}>"}, {"[[I]]", "id", "iso [[I]]"},

		{"{a:I,b:B}", ".a", "lens I"}, {"{a:I,b:B}", ".b", "lens B"}, {"{a:{a:[I]}}", ".a", "lens {a:[I]}"}, {"{a:I,b:B,c:[I],d:<p:I>}", ".d", "lens <p:I>"}, {"{a:I,aa:B}", ".aa", "lens B"},
		{"{a:I,b:B}", ".c", ""}, {"{aa:I}", ".a", ""}, {"{a:I}", ".aa", ""}, {"{a:{b:I}}", ".b", ""}, {"{b:I}", ".a", ""},
		{"<a:I,b:B>", ".a", ""}, {"<a:{a:I}>", ".a", ""}, {"[{a:I}]", ".a", ""}, {"I", ".a", ""}, {"B", ".a", ""},

		{"<p:I,q:B>", "?p", "prism I"}, {"<p:I,q:B>", "?q", "prism B"}, {"<p:<p:[I]>>", "?p", "prism <p:[I]>"}, {"<p:I,q:B,r:[I],s:{a:I}>", "?s", "prism {a:I}"}, {"<p:I,pp:B>", "?pp", "prism B"},
		{"<p:I,q:B>", "?r", ""}, {"<pp:I>", "?p", ""}, {"<p:I>", "?pp", ""}, {"<p:<q:I>>", "?q", ""}, {"<q:I>", "?p", ""},
		{"{p:I,q:B}", "?p", ""}, {"{p:<p:I>}", "?p", ""}, {"[<p:I>]", "?p", ""}, {"I", "?p", ""}, {"B", "?p", ""},

		{"[I]", "each", "traversal I"}, {"[[B]]", "each", "traversal [B]"}, {"[{a:I}]", "each", "traversal {a:I}"},
		{"I", "each", ""}, {"B", "each", ""}, {"{a:[I]}", "each", ""}, {"{a:I,b:I}", "each", ""}, {"<p:[I]>", "each", ""},

		{"[I]", "at 0", "affine I"}, {"[[B]]", "at 1", "affine [B]"}, {"[<p:I>]", "at 1000", "affine <p:I>"},
		{"I", "at 0", ""}, {"B", "at 0", ""}, {"{a:[I]}", "at 0", ""}, {"{a:I,b:I}", "at 1", ""}, {"<p:[I]>", "at 0", ""},

		{"{a:I}", "all", "traversal I"}, {"{a:I,b:I}", "all", "traversal I"}, {"{a:B,b:B,c:B,d:B}", "all", "traversal B"}, {"{a:{p:I,q:[B]},b:{p:I,q:[B]}}", "all", "traversal {p:I,q:[B]}"}, {"{a:[I],b:[I],c:[I]}", "all", "traversal [I]"},
		{"{a:I,b:B}", "all", ""}, {"{a:I,b:I,c:B}", "all", ""}, {"{a:I,b:B,c:I}", "all", ""}, {"{a:B,b:I,c:I}", "all", ""}, {"{a:[I],b:[B]}", "all", ""}, {"{a:{p:I},b:<p:I>}", "all", ""}, {"{a:{p:I},b:{q:I}}", "all", ""},
		{"I", "all", ""}, {"B", "all", ""}, {"<p:I,q:I>", "all", ""}, {"<p:I>", "all", ""}, {"[{a:I}]", "all", ""}, {"[I]", "all", ""},
	})
}

func TestOpticTypeOfIsomorphisms(t *testing.T) {
	checkTypingRows(t, []typingRow{
		{"I", "add 3", "iso I"}, {"I", "add 0", "iso I"}, {"I", "add -1000", "iso I"}, {"I", "add 1000", "iso I"},
		{"B", "add 3", ""}, {"{a:I}", "add 3", ""}, {"<p:I>", "add 3", ""}, {"[I]", "add 3", ""},

		{"B", "not", "iso B"},
		{"I", "not", ""}, {"{a:B}", "not", ""}, {"<p:B>", "not", ""}, {"[B]", "not", ""},

		{"[I]", "rev", "iso [I]"}, {"[[B]]", "rev", "iso [[B]]"}, {"[{a:I,b:<p:I>}]", "rev", "iso [{a:I,b:<p:I>}]"},
		{"I", "rev", ""}, {"B", "rev", ""}, {"{a:[I]}", "rev", ""}, {"<p:[I]>", "rev", ""},

		{"I", "wrap x", "iso {x:I}"}, {"B", "wrap abcd", "iso {abcd:B}"}, {"{a:I,b:B}", "wrap a", "iso {a:{a:I,b:B}}"}, {"<p:I,q:B>", "wrap w9", "iso {w9:<p:I,q:B>}"}, {"[[I]]", "wrap x", "iso {x:[[I]]}"},

		{"[I]", "map id", "iso [I]"}, {"[I]", "map add 1", "iso [I]"}, {"[B]", "map not", "iso [B]"}, {"[[I]]", "map rev", "iso [[I]]"}, {"[I]", "map wrap w", "iso [{w:I}]"},
		{"[[I]]", "map map add 1", "iso [[I]]"}, {"[[B]]", "map map wrap w", "iso [[{w:B}]]"}, {"[[B]]", "map wrap w", "iso [{w:[B]}]"}, {"[I]", "map (add 1;wrap w)", "iso [{w:I}]"}, {"[{a:I}]", "map id", "iso [{a:I}]"},
		// An optic that is no isomorphism.
		{"[[I]]", "map each", ""}, {"[[I]]", "map at 0", ""}, {"[{a:I}]", "map .a", ""}, {"[{a:I}]", "map all", ""}, {"[<p:I>]", "map ?p", ""}, {"[I]", "map (wrap a;.a)", ""}, {"[I]", "map (id|id)", ""}, {"[[[I]]]", "map map each", ""},
		// One that does not fit the elements, though it would fit the list.
		{"[I]", "map not", ""}, {"[B]", "map add 1", ""}, {"[I]", "map rev", ""}, {"[I]", "map map id", ""}, {"[I]", "map each", ""},
		// A source that is no list.
		{"I", "map id", ""}, {"I", "map add 1", ""}, {"B", "map not", ""}, {"{a:I}", "map id", ""}, {"{a:[I]}", "map id", ""}, {"<p:[I]>", "map id", ""},
	})
}

func TestOpticTypeOfCompositions(t *testing.T) {
	checkTypingRows(t, []typingRow{
		{"{a:<p:I>}", "(.a;?p)", "affine I"}, {"<p:{a:I}>", "(?p;.a)", "affine I"}, {"{a:{b:I}}", "(.a;.b)", "lens I"}, {"<p:<q:I>>", "(?p;?q)", "prism I"},
		{"B", "(not;not)", "iso B"}, {"{a:I}", "(.a;add 1)", "lens I"}, {"<p:I>", "(?p;wrap w)", "prism {w:I}"}, {"[I]", "(at 0;add 1)", "affine I"}, {"[B]", "(each;not)", "traversal B"},
		{"I", "(wrap a;.a)", "lens I"}, {"I", "(wrap a;all)", "traversal I"}, {"[[I]]", "(each;at 2)", "traversal I"}, {"[[I]]", "(at 2;each)", "traversal I"}, {"[I]", "(rev;each)", "traversal I"},
		{"[{a:I}]", "(each;.a)", "traversal I"}, {"[<p:I>]", "(each;?p)", "traversal I"}, {"[I]", "(map wrap a;(each;.a))", "traversal I"}, {"{a:[I],b:[I]}", "(all;each)", "traversal I"},
		// The second one fits the source, but not the foci of the first one.
		{"{a:I,b:B}", "(.a;.b)", ""}, {"<p:I,q:B>", "(?p;?q)", ""}, {"[I]", "(each;each)", ""}, {"I", "(wrap a;add 1)", ""}, {"[I]", "(at 0;rev)", ""}, {"{a:I,b:I}", "(all;all)", ""}, {"[{a:I}]", "(each;.b)", ""},
		// The first one does not fit, the second one would.
		{"I", "(.a;id)", ""}, {"I", "(not;add 1)", ""}, {"{a:I}", "(.b;.a)", ""}, {"[I]", "(map not;each)", ""},

		{"<p:I,q:I>", "(?p|?q)", "affine I"}, {"<p:I,q:I,r:B>", "(?q|?p)", "affine I"}, {"<p:I>", "(?p|?p)", "affine I"}, {"{a:I,b:I}", "(.a|.b)", "affine I"}, {"[I]", "(at 3|at 0)", "affine I"}, {"I", "(id|id)", "affine I"}, {"I", "(add 1|add 2)", "affine I"},
		{"<p:I,q:{a:I}>", "(?p|(?q;.a))", "affine I"}, {"{a:[I],b:I}", "((.a;at 0)|.b)", "affine I"}, {"<p:I,q:I,r:I>", "((?p|?q)|?r)", "affine I"}, {"<p:I,q:I,r:I>", "(?p|(?q|?r))", "affine I"}, {"I", "(wrap a|wrap a)", "affine {a:I}"},
		{"<p:{a:I,b:B},q:{a:I,b:B}>", "(?p|?q)", "affine {a:I,b:B}"}, {"<p:I,q:{w:I}>", "((?p;wrap w)|?q)", "affine {w:I}"},
		// Different types.
		{"<p:I,q:B>", "(?p|?q)", ""}, {"{a:I,b:B}", "(.a|.b)", ""}, {"[I]", "(id|at 0)", ""}, {"I", "(wrap a|wrap b)", ""}, {"<p:{a:I},q:<a:I>>", "(?p|?q)", ""}, {"<p:{a:I},q:{b:I}>", "(?p|?q)", ""}, {"<p:[I],q:[B]>", "(?p|?q)", ""}, {"<p:I,q:B,r:I>", "(?p|(?q|?r))", ""},
		// Traversals, also beside optics of lesser kinds.
		{"[I]", "(each|each)", ""}, {"[I]", "(at 0|each)", ""}, {"[I]", "(each|at 0)", ""}, {"{a:I,b:I}", "(.a|all)", ""}, {"{a:I,b:I}", "(all|.a)", ""}, {"<p:[I]>", "((?p;each)|(?p;each))", ""}, {"I", "(id|(wrap a;all))", ""}, {"I", "((wrap a;all)|id)", ""},
		// One of the two does not fit.
		{"<p:I>", "(?p|?q)", ""}, {"<p:I>", "(?q|?p)", ""}, {"I", "(id|not)", ""}, {"I", "(not|id)", ""}, {"I", "(not|not)", ""},
		// What is composed is of the kind of the choice.
		{"[<p:I,q:I>]", "(each;(?p|?q))", "traversal I"}, {"<p:{a:I},q:{a:I}>", "((?p|?q);.a)", "affine I"}, {"I", "((id|add 1);add 1)", "affine I"}, {"<p:[I],q:[I]>", "((?p|?q);each)", "traversal I"},
	})
}

// A step leads from a source made around a type to this type, by an optic of a kind.
type step struct {
	kind   int
	around func(impl.Type) impl.Type
	optic  impl.Optic
}

func kindSteps() []step {
	same := func(x impl.Type) impl.Type { return x }
	pair := func(x impl.Type) impl.Type { return recType("a b", x, x) }
	choice := func(x impl.Type) impl.Type { return sumType("p q", x, x) }
	each, all := impl.Optic{Kind: 4}, impl.Optic{Kind: 5}
	return []step{
		{1, same, idOptic()},
		{2, pair, fieldOptic("a")},
		{3, choice, caseOptic("q")},
		{4, listType, atOptic(7)},
		{5, listType, each},
		{5, pair, all},
		{2, same, thenOptic(wrapOptic("w"), fieldOptic("w"))},
		{4, choice, elseOptic(caseOptic("q"), caseOptic("p"))},
		{4, pair, elseOptic(fieldOptic("b"), fieldOptic("a"))},
		{5, listType, thenOptic(mapOptic(wrapOptic("w")), thenOptic(each, all))},
	}
}

// TestOpticTypeJoinsKinds has two optics of all pairs of kinds, and three of them in both ways.
func TestOpticTypeJoinsKinds(t *testing.T) {
	joins := map[int]bool{}
	for _, inner := range []impl.Type{intType(), boolType(), listType(intType())} {
		for _, a := range kindSteps() {
			checkTyping(t, a.around(inner), a.optic, inner, a.kind)
			for _, b := range kindSteps() {
				s := a.around(b.around(inner))
				checkTyping(t, s, thenOptic(a.optic, b.optic), inner, joinBy(a.kind, b.kind))
				joins[a.kind*10+b.kind] = true
				for _, c := range kindSteps() {
					s := a.around(b.around(c.around(inner)))
					kind := joinBy(a.kind, joinBy(b.kind, c.kind))
					checkTyping(t, s, thenOptic(thenOptic(a.optic, b.optic), c.optic), inner, kind)
					checkTyping(t, s, thenOptic(a.optic, thenOptic(b.optic, c.optic)), inner, kind)
				}
			}
		}
	}
	if len(joins) != 25 {
		t.Errorf("%d pairs of kinds", len(joins))
	}
}

// TestOpticTypeOfChoices has two optics of all kinds that can have the same focus type in the same source.
func TestOpticTypeOfChoices(t *testing.T) {
	groups := []struct {
		source string
		optics []string
	}{
		{"I", []string{"id", "add 1", "(wrap x;.x)", "(id|add 2)", "(wrap x;all)", "(wrap x;(.x;wrap x))", "wrap x"}},
		{"<p:I,q:I>", []string{"?p", "?q", "(?q|?p)", "(?p;(wrap x;all))", "(wrap x;(.x;?p))", "(?p;add 1)"}},
		{"{a:I,b:I}", []string{".a", ".b", "all", "(.a|.b)", "(.b;add 1)", "(.b;(id|id))"}},
		{"[I]", []string{"each", "at 0", "at 1", "(each;add 1)", "(rev;at 0)", "(map add 1;at 1)", "id", "rev"}},
		{"{a:<p:I>,b:[I],c:I,d:{c:I}}", []string{"(.a;?p)", "(.b;at 0)", "(.b;each)", ".c", "(.d;.c)", "(.d;all)", ".d"}},
	}
	kinds := map[int]bool{}
	for _, group := range groups {
		s := typeOfText(t, group.source)
		for _, first := range group.optics {
			for _, second := range group.optics {
				a, b := opticOfText(t, first), opticOfText(t, second)
				aFocus, aKind := typeBy(s, a)
				bFocus, bKind := typeBy(s, b)
				if aKind == 0 || bKind == 0 {
					t.Fatal(group.source, first, second)
				}
				if aKind != 5 && bKind != 5 && sameType(aFocus, bFocus) {
					checkTyping(t, s, elseOptic(a, b), aFocus, 4)
				} else {
					checkTyping(t, s, elseOptic(a, b), impl.Type{}, 0)
				}
				kinds[aKind*10+bKind] = true
			}
		}
	}
	if len(kinds) < 20 {
		t.Errorf("%d pairs of kinds", len(kinds))
	}
}

// TestOpticTypeOfAllPairs compares the results with the definition.
func TestOpticTypeOfAllPairs(t *testing.T) {
	optics := someOptics()
	for _, s := range validTypes() {
		for _, o := range optics {
			focus, kind := typeBy(s, o)
			checkTyping(t, s, o, focus, kind)
		}
	}
	for _, s := range someTypes() {
		for _, o := range leafOptics() {
			focus, kind := typeBy(s, o)
			checkTyping(t, s, o, focus, kind)
		}
	}
}

// randomFitting returns an optic of size nodes that mostly fits the source.
func randomFitting(source *rand.Rand, s impl.Type, size int) impl.Optic {
	if s.Kind == 5 && size > 1 && source.Intn(5) == 0 {
		return mapOptic(randomFitting(source, s.Args[0], size-1))
	}
	if size < 3 {
		return randomLeaf(source, s)
	}
	part := 1 + source.Intn(size-2)
	first := randomFitting(source, s, part)
	if source.Intn(6) == 0 {
		second := first
		if source.Intn(2) == 0 {
			second = randomFitting(source, s, size-1-part)
		}
		return elseOptic(first, second)
	}
	focus, kind := typeBy(s, first)
	if kind == 0 {
		focus = s
	}
	return thenOptic(first, randomFitting(source, focus, size-1-part))
}

func randomLeaf(source *rand.Rand, s impl.Type) impl.Optic {
	fitting := []impl.Optic{idOptic(), wrapOptic("w")}
	for _, label := range s.Labels {
		fitting = append(fitting, impl.Optic{Kind: s.Kind - 1, Name: label})
	}
	switch s.Kind {
	case 1:
		fitting = append(fitting, addOptic(source.Intn(9)-4))
	case 2:
		fitting = append(fitting, impl.Optic{Kind: 8})
	case 3:
		fitting = append(fitting, impl.Optic{Kind: 5})
	case 5:
		fitting = append(fitting, impl.Optic{Kind: 4}, atOptic(source.Intn(3)), impl.Optic{Kind: 9})
	}
	if source.Intn(20) == 0 {
		fitting = leafOptics()
	}
	return fitting[source.Intn(len(fitting))]
}

func TestOpticTypeOfRandomOptics(t *testing.T) {
	source := rand.New(rand.NewSource(10))
	types := validTypes()
	counts := [6]int{}
	for range 20000 {
		s := types[source.Intn(len(types))]
		o := randomFitting(source, s, 1+source.Intn(mostOptic))
		focus, kind := typeBy(s, o)
		checkTyping(t, s, o, focus, kind)
		checkPartOfSource(t, s, o)
		counts[kind]++
	}
	if slices.Min(counts[:]) < 200 {
		t.Errorf("optics without a kind and with each: %v", counts)
	}
}

// checkPartOfSource checks that the foci of a structural optic have the type of a part of the source.
func checkPartOfSource(t *testing.T, s impl.Type, o impl.Optic) {
	t.Helper()
	focus, _, ok := impl.OpticType(s, o)
	if ok && impl.IsStructural(o) && !hasPart(s, focus) {
		t.Errorf("OpticType(%v, %v) is %v, which is no part of the source", s, o, focus)
	}
}

func hasPart(s impl.Type, part impl.Type) bool {
	return sameType(s, part) || slices.ContainsFunc(s.Args, func(arg impl.Type) bool { return hasPart(arg, part) })
}

// sameTyping reports whether two optics have the same type and kind for a source, or both have none.
func sameTyping(s impl.Type, a impl.Optic, b impl.Optic) bool {
	aFocus, aKind, aOk := impl.OpticType(s, a)
	bFocus, bKind, bOk := impl.OpticType(s, b)
	return sameType(aFocus, bFocus) && aKind == bKind && aOk == bOk && impl.IsTyped(s, a) == impl.IsTyped(s, b)
}

// checkIdChangesNoType is promise 10 for one optic.
func checkIdChangesNoType(t *testing.T, s impl.Type, o impl.Optic) {
	t.Helper()
	for _, x := range []impl.Optic{thenOptic(idOptic(), o), thenOptic(o, idOptic()), thenOptic(idOptic(), thenOptic(o, idOptic())), thenOptic(thenOptic(idOptic(), o), idOptic())} {
		// An optic that has become too large or too deep is none.
		if isOpticBy(x) && !sameTyping(s, x, o) {
			t.Errorf("for %v the optics %v and %v have different types", s, o, x)
		}
	}
}

// TestIdChangesNoType is promise 10.
func TestIdChangesNoType(t *testing.T) {
	for _, s := range validTypes() {
		for _, o := range leafOptics() {
			checkIdChangesNoType(t, s, o)
		}
	}
	source := rand.New(rand.NewSource(100))
	types := validTypes()
	count := 0
	for range 10000 {
		s := types[source.Intn(len(types))]
		o := randomFitting(source, s, 1+source.Intn(mostOptic-4))
		checkIdChangesNoType(t, s, o)
		if impl.IsTyped(s, o) {
			count++
		}
	}
	if count < 3000 {
		t.Errorf("%d optics that fit", count)
	}
}

// TestCompositionIsAssociative composes three optics in both ways.
func TestCompositionIsAssociative(t *testing.T) {
	source := rand.New(rand.NewSource(1000))
	types := validTypes()
	counts := [2]int{}
	for range 10000 {
		s := types[source.Intn(len(types))]
		var parts [3]impl.Optic
		x := s
		for k := range parts {
			parts[k] = randomFitting(source, x, 1+source.Intn(6))
			x, _ = typeBy(x, parts[k])
		}
		left, right := thenOptic(thenOptic(parts[0], parts[1]), parts[2]), thenOptic(parts[0], thenOptic(parts[1], parts[2]))
		if !sameTyping(s, left, right) {
			t.Errorf("for %v the optics %v and %v have different types", s, left, right)
		}
		if impl.IsTyped(s, left) {
			counts[1]++
		} else {
			counts[0]++
		}
	}
	if slices.Min(counts[:]) < 500 {
		t.Errorf("%v optics that do not fit and that do", counts)
	}
}

// TestOpticTypeAtMostSize has optics that lead to types, or by types, of as many nodes as there can be, and of more.
func TestOpticTypeAtMostSize(t *testing.T) {
	through := thenOptic(wrapOptic("w"), fieldOptic("w"))
	for size := mostTypeSize - 4; size <= mostTypeSize; size++ {
		s := typeOfSize(size)
		checkWithin := func(s impl.Type, o impl.Optic, nodes int, focus impl.Type, kind int) {
			t.Helper()
			if nodes > mostTypeSize {
				focus, kind = impl.Type{}, 0
			}
			checkTyping(t, s, o, focus, kind)
		}
		checkWithin(s, idOptic(), size, s, 1)
		checkWithin(s, wrapOptic("w"), size+1, recType("w", s), 1)
		checkWithin(s, thenOptic(wrapOptic("w"), wrapOptic("x")), size+2, recType("x", recType("w", s)), 1)
		// The foci are in the source, but a type on the way is too large.
		checkWithin(s, through, size+1, s, 2)
		checkWithin(s, thenOptic(through, idOptic()), size+1, s, 2)
		checkWithin(s, thenOptic(idOptic(), through), size+1, s, 2)
		checkWithin(s, elseOptic(idOptic(), through), size+1, s, 4)
		checkWithin(s, elseOptic(through, idOptic()), size+1, s, 4)
		checkWithin(s, elseOptic(wrapOptic("w"), wrapOptic("w")), size+1, recType("w", s), 4)
		checkWithin(s, thenOptic(wrapOptic("w"), thenOptic(wrapOptic("x"), thenOptic(fieldOptic("x"), fieldOptic("w")))), size+2, s, 2)
		if size == mostTypeSize {
			continue
		}
		checkWithin(listType(s), mapOptic(idOptic()), size+1, listType(s), 1)
		checkWithin(listType(s), mapOptic(wrapOptic("w")), size+2, listType(recType("w", s)), 1)
		checkWithin(listType(s), thenOptic(mapOptic(wrapOptic("w")), thenOptic(atOptic(0), fieldOptic("w"))), size+2, s, 4)
		checkWithin(listType(s), thenOptic(atOptic(0), wrapOptic("w")), size+1, recType("w", s), 4)
		checkWithin(listType(s), thenOptic(atOptic(0), through), size+1, s, 4)
		if size < mostTypeSize-1 {
			checkWithin(listType(listType(s)), mapOptic(mapOptic(wrapOptic("w"))), size+3, listType(listType(recType("w", s))), 1)
		}
	}
}

func TestOpticTypeAtMostDepth(t *testing.T) {
	through := thenOptic(wrapOptic("w"), fieldOptic("w"))
	for _, around := range []func(impl.Type) impl.Type{listType, func(x impl.Type) impl.Type { return recType("a", x) }, func(x impl.Type) impl.Type { return sumType("p q", boolType(), x) }} {
		for depth := 1; depth <= mostTypeDepth+2; depth++ {
			s := nest(intType(), depth-1, around)
			checkWithin := func(s impl.Type, o impl.Optic, levels int, focus impl.Type, kind int) {
				t.Helper()
				if levels > mostTypeDepth {
					focus, kind = impl.Type{}, 0
				}
				checkTyping(t, s, o, focus, kind)
			}
			checkWithin(s, idOptic(), depth, s, 1)
			checkWithin(s, wrapOptic("w"), depth+1, recType("w", s), 1)
			checkWithin(s, through, depth+1, s, 2)
			checkWithin(s, thenOptic(idOptic(), through), depth+1, s, 2)
			checkWithin(s, elseOptic(idOptic(), through), depth+1, s, 4)
			checkWithin(s, elseOptic(through, idOptic()), depth+1, s, 4)
			checkWithin(listType(s), impl.Optic{Kind: 4}, depth+1, s, 5)
			checkWithin(listType(s), mapOptic(wrapOptic("w")), depth+2, listType(recType("w", s)), 1)
			checkWithin(listType(s), thenOptic(mapOptic(wrapOptic("w")), thenOptic(impl.Optic{Kind: 4}, fieldOptic("w"))), depth+2, s, 5)
			checkWithin(listType(listType(s)), mapOptic(mapOptic(wrapOptic("w"))), depth+3, listType(listType(recType("w", s))), 1)
		}
	}
}

// TestOpticTypeOfInvalidSources has sources that are not valid, though the optic leads to a part that is.
func TestOpticTypeOfInvalidSources(t *testing.T) {
	i := intType()
	for _, x := range formlessTypes() {
		for _, o := range leafOptics() {
			checkTyping(t, x, o, impl.Type{}, 0)
		}
		for _, s := range []impl.Type{recType("a b", i, x), sumType("a b", i, x), listType(x), recType("a b", x, x), recType("a", listType(x)), recType("a b", i, listType(x))} {
			for _, o := range []impl.Optic{idOptic(), fieldOptic("a"), caseOptic("a"), {Kind: 4}, {Kind: 5}, atOptic(0), {Kind: 9}, wrapOptic("w"), mapOptic(idOptic())} {
				checkUnfit(t, s, o)
			}
		}
	}
	large, deep := typeOfSize(mostTypeSize), nest(i, mostTypeDepth-1, listType)
	for _, x := range []impl.Type{large, deep} {
		checkTyping(t, x, idOptic(), x, 1)
		checkUnfit(t, recType("a", x), fieldOptic("a"))
		checkUnfit(t, recType("a", x), impl.Optic{Kind: 5})
		checkUnfit(t, recType("a b", i, x), fieldOptic("a"))
		checkUnfit(t, sumType("p", x), caseOptic("p"))
		checkUnfit(t, listType(x), impl.Optic{Kind: 4})
		checkUnfit(t, listType(x), atOptic(0))
		checkUnfit(t, listType(x), impl.Optic{Kind: 9})
		checkUnfit(t, listType(x), mapOptic(idOptic()))
		checkUnfit(t, listType(x), idOptic())
	}
}

// TestOpticTypeOfNoOptics has values that are no optics, though a part of them, or one with fewer fields, would fit.
func TestOpticTypeOfNoOptics(t *testing.T) {
	sources := []impl.Type{intType(), boolType(), recType("a b", intType(), intType()), sumType("a b", intType(), intType()), listType(intType()), listType(listType(boolType()))}
	for _, o := range formlessOptics() {
		for _, s := range sources {
			checkUnfit(t, s, o)
		}
	}
	double := func(o impl.Optic) impl.Optic { return thenOptic(o, idOptic()) }
	for depth := 1; depth <= mostOpticDepth+3; depth++ {
		for _, s := range sources {
			want, kind := s, 1
			if depth > mostOpticDepth {
				want, kind = impl.Type{}, 0
			}
			checkTyping(t, s, nestOptic(idOptic(), depth-1, double), want, kind)
		}
	}
	for size := 1; size <= 2*mostOptic; size += 2 {
		o := balancedIds(size)
		if nodes, depth := opticExtent(o); nodes != size || depth > mostOpticDepth {
			t.Fatal(nodes, depth)
		}
		for _, s := range sources {
			want, kind := s, 1
			if size > mostOptic {
				want, kind = impl.Type{}, 0
			}
			checkTyping(t, s, o, want, kind)
		}
	}
}

// balancedIds returns a composition of OpId of size nodes, which is an odd number.
func balancedIds(size int) impl.Optic {
	if size == 1 {
		return idOptic()
	}
	half := (size - 1) / 2
	half -= 1 - half%2
	return thenOptic(balancedIds(half), balancedIds(size-1-half))
}

func TestIsStructuralAndIsPlainTable(t *testing.T) {
	rows := []struct {
		optic        string
		isStructural bool
		isPlain      bool
	}{
		{"id", true, true}, {".a", true, true}, {"?p", true, true}, {"each", true, true}, {"all", true, true}, {"at 0", true, true}, {"at 1000", true, true},
		{"add 1", true, false}, {"add 0", true, false}, {"add -5", true, false}, {"not", true, false},
		{"rev", false, false}, {"wrap w", false, false}, {"map id", false, false}, {"map .a", false, false}, {"map add 1", false, false}, {"map map id", false, false},
		{"(.a;?p)", true, true}, {"(.a|?p)", true, true}, {"((.a|each);(at 1|all))", true, true}, {"(id;(id;(id;id)))", true, true},
		{"(.a;add 1)", true, false}, {"(not;.a)", true, false}, {"(.a|not)", true, false}, {"(add 1|.a)", true, false}, {"(.a;(.b;(.c;not)))", true, false}, {"(((add 1;.b);.c);.d)", true, false}, {"(add 1;not)", true, false},
		{"(.a;rev)", false, false}, {"(rev;.a)", false, false}, {"(.a|wrap w)", false, false}, {"(wrap w|.a)", false, false}, {"(.a;(.b;(.c;map id)))", false, false}, {"(((map id;.b);.c);.d)", false, false},
		{"(add 1;rev)", false, false}, {"(rev;add 1)", false, false}, {"(not|wrap w)", false, false}, {"(map id;not)", false, false}, {"map rev", false, false}, {"map wrap w", false, false},
		{"(wrap a;.a)", false, false}, {"(rev;rev)", false, false},
	}
	for _, row := range rows {
		o := opticOfText(t, row.optic)
		if impl.IsStructural(o) != row.isStructural || impl.IsPlain(o) != row.isPlain {
			t.Errorf("of %s IsStructural is %v, IsPlain %v", row.optic, impl.IsStructural(o), impl.IsPlain(o))
		}
	}
}

func hasKindIn(o impl.Optic, kinds ...int) bool {
	has := slices.Contains(kinds, o.Kind)
	for _, arg := range o.Args {
		has = has || hasKindIn(arg, kinds...)
	}
	return has
}

// checkStructure checks IsStructural and IsPlain by their definition.
func checkStructure(t *testing.T, o impl.Optic) {
	t.Helper()
	isStructural := isOpticBy(o) && !hasKindIn(o, 9, 10, 11)
	isPlain := isOpticBy(o) && !hasKindIn(o, 7, 8, 9, 10, 11)
	if impl.IsStructural(o) != isStructural || impl.IsPlain(o) != isPlain {
		t.Errorf("of %v IsStructural is %v, IsPlain %v", o, impl.IsStructural(o), impl.IsPlain(o))
	}
}

func TestIsStructuralAndIsPlainOfAllOptics(t *testing.T) {
	for _, o := range someOptics() {
		checkStructure(t, o)
	}
	hosts := append(hostOptics(), thenOptic(idOptic(), elseOptic(fieldOptic("a"), caseOptic("p"))), opticOfText(t, "((.a;(each|at 0));((?p|?q);all))"), nestOptic(idOptic(), mostOpticDepth-1, func(o impl.Optic) impl.Optic { return thenOptic(o, idOptic()) }))
	for _, host := range hosts {
		for _, leaf := range append(leafOptics(), mapOptic(idOptic())) {
			for _, o := range withOpticReplaced(host, leaf) {
				checkStructure(t, o)
			}
		}
		for _, node := range formlessOptics() {
			for _, o := range withOpticReplaced(host, node) {
				if impl.IsStructural(o) || impl.IsPlain(o) {
					t.Errorf("IsStructural or IsPlain of %v is true", o)
				}
			}
		}
	}
	source := rand.New(rand.NewSource(1))
	for range 10000 {
		checkStructure(t, randomOptic(source, 1+source.Intn(8)))
		checkStructure(t, randomTree(source, 1+source.Intn(8)))
	}
	for size := 1; size <= 2*mostOptic; size += 2 {
		checkStructure(t, balancedIds(size))
	}
}

// TestTypingOfHugeArguments has types and optics that are deep, wide, larger than memory, or without end.
func TestTypingOfHugeArguments(t *testing.T) {
	const long = 100000
	doubleType := func(x impl.Type) impl.Type { return recType("a b", x, x) }
	types := []impl.Type{nest(intType(), 60, doubleType), nest(intType(), long, listType), nest(intType(), long, doubleType)}
	for kind := range 7 {
		ring := make([]impl.Type, 1)
		ring[0] = impl.Type{Kind: kind, Labels: []string{"a"}, Args: ring}
		bare := make([]impl.Type, 1)
		bare[0] = impl.Type{Kind: kind, Args: bare}
		types = append(types, ring[0], bare[0], impl.Type{Kind: kind, Args: ints(long)}, impl.Type{Kind: kind, Labels: []string{strings.Repeat("a", long)}, Args: ints(1)})
	}
	for _, x := range types {
		for _, s := range []impl.Type{x, listType(x), recType("a b", intType(), x), sumType("a b", intType(), x)} {
			for _, o := range append(leafOptics(), mapOptic(idOptic()), elseOptic(fieldOptic("a"), fieldOptic("a"))) {
				if focus, kind, ok := impl.OpticType(s, o); ok || kind != 0 || !isZeroType(focus) || impl.IsTyped(s, o) {
					t.Error("an optic fits a huge type")
				}
			}
		}
	}
	doubleOptic := func(o impl.Optic) impl.Optic { return thenOptic(o, o) }
	optics := []impl.Optic{nestOptic(idOptic(), 60, doubleOptic), nestOptic(idOptic(), long, doubleOptic), nestOptic(idOptic(), long, mapOptic)}
	for kind := range 15 {
		ring := make([]impl.Optic, 1)
		ring[0] = impl.Optic{Kind: kind, Args: ring}
		pair := make([]impl.Optic, 2)
		pair[0], pair[1] = impl.Optic{Kind: kind, Args: pair}, idOptic()
		optics = append(optics, ring[0], pair[0], impl.Optic{Kind: kind, Args: ids(long)}, impl.Optic{Kind: kind, Name: strings.Repeat("a", long)})
	}
	for _, x := range optics {
		for _, o := range []impl.Optic{x, mapOptic(x), thenOptic(idOptic(), x), elseOptic(x, idOptic())} {
			for _, s := range []impl.Type{intType(), listType(intType()), recType("a", intType()), types[0], types[3]} {
				if focus, kind, ok := impl.OpticType(s, o); ok || kind != 0 || !isZeroType(focus) || impl.IsTyped(s, o) {
					t.Error("a huge optic fits")
				}
			}
			if impl.IsStructural(o) || impl.IsPlain(o) {
				t.Error("IsStructural or IsPlain of a huge optic is true")
			}
		}
	}
}

func TestTypingKeepsItsArguments(t *testing.T) {
	optics := someValidOptics()
	for depth := range 4 {
		for kind := range 7 {
			s := sparedType(depth)
			s.Kind = kind
			before := wholeOf(s)
			for _, o := range optics {
				impl.OpticType(s, o)
				impl.IsTyped(s, o)
			}
			if !reflect.DeepEqual(wholeOf(s), before) {
				t.Errorf("%v became %v", before, wholeOf(s))
			}
		}
		for kind := -1; kind <= 15; kind++ {
			o := sparedOptic(kind, depth)
			before := wholeOfOptic(o)
			for _, s := range []impl.Type{intType(), listType(intType()), sparedType(1), {}} {
				impl.OpticType(s, o)
				impl.IsTyped(s, o)
			}
			impl.IsStructural(o)
			impl.IsPlain(o)
			if !reflect.DeepEqual(wholeOfOptic(o), before) {
				t.Errorf("%v became %v", before, wholeOfOptic(o))
			}
		}
	}
	// What is behind the length is not part of the optic, nor of the type.
	o := sparedOptic(12, 2)
	focus, kind, ok := impl.OpticType(sparedType(2), o)
	if !ok || kind != 4 || !sameType(focus, sparedType(2)) || !impl.IsPlain(o) {
		t.Errorf("with unused capacity OpticType is %v, %d, %v", focus, kind, ok)
	}
}

// TestFocusTypesAreNew overwrites results, and looks whether anything else has changed.
func TestFocusTypesAreNew(t *testing.T) {
	for _, optic := range []string{"id", ".p", ".q", "all", "wrap w", "(id;id)", "(.p;id)", "(id|id)", "(.p|.q)", "(wrap w;.w)", "(wrap w;wrap x)"} {
		s, o := recType("p q", sparedType(2), sparedType(2)), opticOfText(t, optic)
		checkNewFocus(t, s, o)
	}
	for _, optic := range []string{"id", "each", "at 0", "rev", "map id", "map wrap w", "map (wrap w;wrap x)", "(each;.a)", "(rev;map id)", "(at 0|at 1)"} {
		checkNewFocus(t, listType(sparedType(2)), opticOfText(t, optic))
	}
	checkNewFocus(t, sumType("p q", sparedType(1), sparedType(1)), opticOfText(t, "(?p|?q)"))
	checkNewFocus(t, sparedType(0), opticOfText(t, "add 1"))
}

func checkNewFocus(t *testing.T, s impl.Type, o impl.Optic) {
	t.Helper()
	before, opticBefore := wholeOf(s), wholeOfOptic(o)
	want, wantKind := typeBy(s, o)
	want = copiedType(want)
	first, _, ok := impl.OpticType(s, o)
	second, kind, _ := impl.OpticType(s, o)
	if !ok || !sameType(first, want) {
		t.Errorf("OpticType(%v, %v) is %v, %v", s, o, first, ok)
	}
	overwrite(first)
	if !reflect.DeepEqual(wholeOf(s), before) || !reflect.DeepEqual(wholeOfOptic(o), opticBefore) || !sameType(second, want) || kind != wantKind {
		t.Errorf("for %v the result shares memory with an argument or with another result", o)
	}
	overwrite(s)
	overwriteOptic(o)
	if !sameType(second, want) {
		t.Errorf("the result %v changes with an argument", second)
	}
}

func copiedType(x impl.Type) impl.Type {
	copied := impl.Type{Kind: x.Kind, Labels: slices.Clone(x.Labels)}
	for _, arg := range x.Args {
		copied.Args = append(copied.Args, copiedType(arg))
	}
	return copied
}

// TestSlicesOfFocusTypesAreApart has sources with the same slices in several places, which a result must not have.
func TestSlicesOfFocusTypesAreApart(t *testing.T) {
	pair := recType("a b", intType(), boolType())
	s := recType("k v", pair, pair)
	for _, optic := range []string{"id", "(wrap w;.w)", "(id;id)", "(id|id)"} {
		focus, _, ok := impl.OpticType(s, opticOfText(t, optic))
		if !ok || !sameType(focus, s) {
			t.Fatalf("OpticType by %s is %v", optic, focus)
		}
		overwrite(focus.Args[0])
		if !sameType(focus.Args[1], recType("a b", intType(), boolType())) {
			t.Errorf("two slices of the result by %s share memory", optic)
		}
	}
	if !sameType(pair, recType("a b", intType(), boolType())) {
		t.Error("the argument has changed")
	}
}

func TestFocusTypesShareNoStrings(t *testing.T) {
	whole := strings.Repeat("abcd", 2)
	a, b := whole[:2], whole[1:3]
	inner := impl.Type{Kind: 4, Labels: []string{a, b}, Args: ints(2)}
	s := impl.Type{Kind: 3, Labels: []string{a}, Args: []impl.Type{inner}}
	optics := []impl.Optic{idOptic(), fieldOptic(a), wrapOptic(b), {Kind: 5}, thenOptic(wrapOptic(b), fieldOptic(b)), elseOptic(wrapOptic(a), wrapOptic(a)), thenOptic(wrapOptic(a), wrapOptic(b))}
	for _, o := range optics {
		focus, _, ok := impl.OpticType(s, o)
		if !ok {
			t.Fatal(o)
		}
		checkNoSharedLabels(t, whole, focus)
	}
	for _, o := range []impl.Optic{{Kind: 4}, {Kind: 9}, atOptic(0), mapOptic(wrapOptic(b))} {
		focus, _, ok := impl.OpticType(listType(s), o)
		if !ok {
			t.Fatal(o)
		}
		checkNoSharedLabels(t, whole, focus)
	}
}

func checkNoSharedLabels(t *testing.T, whole string, x impl.Type) {
	t.Helper()
	for _, label := range x.Labels {
		if shareMemory(whole, label) {
			t.Errorf("%q is in the memory of an argument", label)
		}
	}
	for _, arg := range x.Args {
		checkNoSharedLabels(t, whole, arg)
	}
}

func typingResults(s impl.Type, o impl.Optic) string {
	focus, kind, ok := impl.OpticType(s, o)
	return fmt.Sprint(typeText(focus), kind, ok, impl.IsTyped(s, o), impl.IsStructural(o), impl.IsPlain(o))
}

// TestTypingDependsOnArgumentsOnly calls the functions again after others, after changes of their arguments, and at once.
func TestTypingDependsOnArgumentsOnly(t *testing.T) {
	s, o := recType("a b", intType(), listType(boolType())), thenOptic(fieldOptic("a"), idOptic())
	for range 3 {
		if got := typingResults(s, o); got != "I2 true true true true" {
			t.Error(got)
		}
		s.Args[0] = sumType("p", boolType())
		o.Args[1] = caseOptic("p")
		if got := typingResults(s, o); got != "B4 true true true true" {
			t.Error(got)
		}
		o.Args[1] = impl.Optic{Kind: 9}
		if focus, kind, ok := impl.OpticType(s, o); ok || kind != 0 || !isZeroType(focus) || impl.IsStructural(o) {
			t.Error("a result is kept when the optic has changed")
		}
		s.Args[0], o.Args[1] = intType(), idOptic()
	}
	var group sync.WaitGroup
	want := typingResults(s, o)
	for range 8 {
		group.Go(func() {
			for range 200 {
				if got := typingResults(s, o); got != want {
					t.Error(got)
				}
			}
		})
	}
	group.Wait()
}
