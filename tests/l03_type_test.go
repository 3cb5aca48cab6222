package tests

import (
	"math"
	"reflect"
	"slices"
	"strings"
	"testing"

	"loop.example/g00592/impl"
)

// The limits and kinds as the specification states them.
const (
	mostTypeSize  = 30
	mostTypeDepth = 8
	mostLabels    = 4
)

func intType() impl.Type { return impl.Type{Kind: 1} }

func boolType() impl.Type { return impl.Type{Kind: 2} }

func recType(labels string, args ...impl.Type) impl.Type {
	return impl.Type{Kind: 3, Labels: strings.Fields(labels), Args: args}
}

func sumType(labels string, args ...impl.Type) impl.Type {
	return impl.Type{Kind: 4, Labels: strings.Fields(labels), Args: args}
}

func listType(element impl.Type) impl.Type {
	return impl.Type{Kind: 5, Args: []impl.Type{element}}
}

// ints returns as many integer types as there are labels in a record or sum.
func ints(count int) []impl.Type {
	return slices.Repeat([]impl.Type{intType()}, count)
}

// typeOfSize returns a valid type of size nodes, if they are few enough.
func typeOfSize(size int) impl.Type {
	if size <= 1 {
		return intType()
	}
	labels := []string{"a", "b", "c", "d"}
	count := min(size-1, mostLabels)
	made := impl.Type{Kind: 3 + size%2, Labels: labels[:count]}
	for k := range count {
		made.Args = append(made.Args, typeOfSize((size-1+k)/count))
	}
	return made
}

// nest returns around(around(... t)), nested times.
func nest(t impl.Type, times int, around func(impl.Type) impl.Type) impl.Type {
	for range times {
		t = around(t)
	}
	return t
}

// withNodeReplaced lists, for each node of t, t with node in its place.
func withNodeReplaced(t impl.Type, node impl.Type) []impl.Type {
	list := []impl.Type{node}
	for k, arg := range t.Args {
		for _, replaced := range withNodeReplaced(arg, node) {
			changed := t
			changed.Args = slices.Clone(t.Args)
			changed.Args[k] = replaced
			list = append(list, changed)
		}
	}
	return list
}

// formlessTypes lists nodes that no valid type has.
func formlessTypes() []impl.Type {
	i := intType()
	list := []impl.Type{
		{},
		{Labels: []string{"a"}, Args: ints(1)},
		{Kind: 1, Labels: []string{"a"}},
		{Kind: 1, Args: ints(1)},
		{Kind: 1, Labels: []string{"a"}, Args: ints(1)},
		{Kind: 2, Labels: []string{"a"}},
		{Kind: 2, Args: ints(1)},
		{Kind: 2, Labels: []string{"a"}, Args: ints(1)},
		{Kind: 5},
		{Kind: 5, Args: ints(2)},
		{Kind: 5, Args: ints(3)},
		{Kind: 5, Labels: []string{"a"}},
		{Kind: 5, Labels: []string{"a"}, Args: ints(1)},
		{Kind: 5, Labels: []string{"a", "b"}, Args: ints(2)},
	}
	for _, kind := range []int{-1, -3, 6, 7, 8, 19, 3 + 1<<32, math.MinInt, math.MaxInt} {
		list = append(list, impl.Type{Kind: kind}, impl.Type{Kind: kind, Args: ints(1)}, impl.Type{Kind: kind, Labels: []string{"a"}, Args: ints(1)})
	}
	for _, kind := range []int{3, 4} {
		list = append(list,
			impl.Type{Kind: kind},
			impl.Type{Kind: kind, Labels: []string{}, Args: []impl.Type{}},
			impl.Type{Kind: kind, Args: ints(1)},
			impl.Type{Kind: kind, Labels: []string{"a"}},
			impl.Type{Kind: kind, Labels: []string{"a"}, Args: ints(2)},
			impl.Type{Kind: kind, Labels: []string{"a", "b"}, Args: ints(1)},
			impl.Type{Kind: kind, Labels: []string{"a", "b"}, Args: ints(3)},
			impl.Type{Kind: kind, Labels: []string{"a", "b", "c", "d"}, Args: ints(3)},
			impl.Type{Kind: kind, Labels: []string{"a", "b", "c", "d"}, Args: ints(5)},
			impl.Type{Kind: kind, Labels: []string{"a", "b", "c", "d", "e"}, Args: ints(5)},
			impl.Type{Kind: kind, Labels: []string{"a", "b", "c", "d", "e"}, Args: ints(4)},
			impl.Type{Kind: kind, Labels: []string{"a", "b", "c", "d", "e", "f"}, Args: ints(6)},
		)
		for _, labels := range wrongLabels() {
			list = append(list, impl.Type{Kind: kind, Labels: labels, Args: slices.Repeat([]impl.Type{i}, len(labels))})
		}
	}
	return list
}

// wrongLabels lists labels that are out of order, equal, or no names.
func wrongLabels() [][]string {
	return [][]string{
		{"b", "a"}, {"aa", "a"}, {"ab", "a9"}, {"a", "c", "b"}, {"b", "a", "c"}, {"c", "b", "a"}, {"a", "b", "d", "c"}, {"b", "a", "c", "d"},
		{"a", "a"}, {"a", "a", "b"}, {"a", "b", "b"}, {"a", "b", "c", "c"}, {"a", "b", "a"},
		{""}, {"", "a"}, {"A"}, {"A", "a"}, {"0"}, {"0a", "b"}, {"a", "abcde"}, {"abcde"}, {"a", "b "}, {"a", "b_"}, {"a", "b", "c", "dd\xff"},
		{"\u00e9"}, {"a", "\u00e9"}, {"a\x00"}, {strings.Repeat("a", 5000)},
	}
}

// validTypes lists valid types, all different.
func validTypes() []impl.Type {
	i, b := intType(), boolType()
	list := []impl.Type{
		i, b,
		recType("a", i), recType("a", b), recType("b", i), recType("abcd", i), recType("z999", i),
		sumType("a", i), sumType("a", b), sumType("b", i),
		listType(i), listType(b), listType(listType(i)),
		recType("a b", i, i), recType("a b", i, b), recType("a b", b, i), recType("a b", b, b), recType("a c", i, i), recType("a aa", i, i), recType("a9 aa", i, i),
		sumType("a b", i, i), sumType("a b", i, b), sumType("a b", b, i),
		recType("a b c", i, i, i), recType("a b c", i, i, b), recType("a b c d", i, i, i, i), recType("a b c d", i, i, i, b), sumType("a b c d", i, b, i, b),
		recType("p", recType("q", recType("r", sumType("s", listType(b))))),
		recType("a b", listType(i), listType(i)), recType("a b", listType(i), listType(b)), recType("a b", recType("p", i), sumType("p", i)),
		recType("a b", recType("p q", i, b), recType("p q", i, b)), recType("a b", recType("p q", i, b), recType("p r", i, b)),
		sumType("p q", recType("a b", i, listType(b)), listType(sumType("x y", i, b))),
		listType(recType("k v", i, sumType("no yes", b, listType(i)))),
	}
	for size := 6; size <= mostTypeSize; size++ {
		list = append(list, typeOfSize(size))
	}
	for depth := 4; depth <= mostTypeDepth; depth++ {
		list = append(list, nest(i, depth-1, listType))
	}
	return list
}

// someTypes lists types of all sorts: valid ones, formless ones, and ones with formless parts.
func someTypes() []impl.Type {
	list := slices.Concat(validTypes(), formlessTypes())
	for _, t := range formlessTypes() {
		list = append(list, listType(t), recType("a b", t, intType()), sumType("a b", intType(), t), recType("a b", t, t))
	}
	for size := mostTypeSize + 1; size < 50; size++ {
		list = append(list, typeOfSize(size))
	}
	for depth := mostTypeDepth + 1; depth < 20; depth++ {
		list = append(list, nest(intType(), depth-1, listType), recType("a", nest(boolType(), depth-2, listType)))
	}
	return list
}

// sizeAndDepth is the definition.
func sizeAndDepth(t impl.Type) (int, int) {
	size, depth := 1, 0
	for _, arg := range t.Args {
		s, d := sizeAndDepth(arg)
		size, depth = size+s, max(depth, d)
	}
	return size, depth + 1
}

func isZeroType(t impl.Type) bool { return t.Kind == 0 && len(t.Labels) == 0 && len(t.Args) == 0 }

func TestTypeConstants(t *testing.T) {
	if impl.MaxTypeSize != mostTypeSize || impl.MaxTypeDepth != mostTypeDepth || impl.MaxLabels != mostLabels {
		t.Error("limits")
	}
	if impl.TyInt != 1 || impl.TyBool != 2 || impl.TyRec != 3 || impl.TySum != 4 || impl.TyList != 5 {
		t.Error("kinds")
	}
}

func TestSizeAndDepthTable(t *testing.T) {
	i, b := intType(), boolType()
	cases := []struct {
		t     impl.Type
		size  int
		depth int
	}{
		{impl.Type{}, 1, 1},
		{i, 1, 1},
		{b, 1, 1},
		{listType(i), 2, 2},
		{recType("a b", i, b), 3, 2},
		{sumType("a b c d", i, i, b, b), 5, 2},
		{recType("a b", listType(listType(i)), b), 5, 4},
		{recType("a b", b, listType(listType(i))), 5, 4},
		{recType("a b c", b, listType(listType(i)), b), 6, 4},
		{listType(sumType("a b", recType("x y", i, i), recType("x", i))), 7, 4},
		// The nodes are those of Args, whatever the kinds and the labels.
		{impl.Type{Kind: 1, Args: []impl.Type{i, b}}, 3, 2},
		{impl.Type{Kind: 1, Labels: []string{"a", "b"}}, 1, 1},
		{impl.Type{Kind: -1, Args: []impl.Type{listType(i)}}, 3, 3},
		{impl.Type{Kind: 3, Labels: []string{"a"}, Args: ints(9)}, 10, 2},
		{impl.Type{Kind: 4, Labels: []string{"b", "a", "a"}}, 1, 1},
		{impl.Type{Kind: 5, Args: []impl.Type{}}, 1, 1},
		{nest(i, 20, listType), 21, 21},
		{typeOfSize(100), 100, 5},
	}
	for _, c := range cases {
		if size := impl.SizeOfType(c.t); size != c.size {
			t.Errorf("SizeOfType(%v) is %d, want %d", c.t, size, c.size)
		}
		if depth := impl.DepthOfType(c.t); depth != c.depth {
			t.Errorf("DepthOfType(%v) is %d, want %d", c.t, depth, c.depth)
		}
	}
}

// TestSizesAreThoseOfParts is promise 3.
func TestSizesAreThoseOfParts(t *testing.T) {
	for _, x := range someTypes() {
		size, depth := 1, 0
		for _, arg := range x.Args {
			size += impl.SizeOfType(arg)
			depth = max(depth, impl.DepthOfType(arg))
		}
		if impl.SizeOfType(x) != size || impl.DepthOfType(x) != depth+1 {
			t.Errorf("%v has the size %d and the depth %d, its parts %d and %d", x, impl.SizeOfType(x), impl.DepthOfType(x), size-1, depth)
		}
		size, depth = sizeAndDepth(x)
		if impl.SizeOfType(x) != size || impl.DepthOfType(x) != depth {
			t.Errorf("%v has the size %d and the depth %d, not %d and %d", x, impl.SizeOfType(x), impl.DepthOfType(x), size, depth)
		}
		if impl.IsValidType(x) {
			checkPartSizes(t, x)
		}
	}
}

// checkPartSizes checks promise 3 for the parts that PartType returns.
func checkPartSizes(t *testing.T, x impl.Type) {
	t.Helper()
	if len(x.Labels) == 0 {
		return
	}
	size, depth := 1, 0
	for _, label := range x.Labels {
		part, ok := impl.PartType(x, label)
		if !ok {
			t.Errorf("%v has no part %q", x, label)
		}
		size += impl.SizeOfType(part)
		depth = max(depth, impl.DepthOfType(part))
	}
	if impl.SizeOfType(x) != size || impl.DepthOfType(x) != depth+1 {
		t.Errorf("the parts of %v have the size %d and the depth %d", x, size-1, depth)
	}
}

func TestIsValidTypeTable(t *testing.T) {
	for _, x := range validTypes() {
		if !impl.IsValidType(x) {
			t.Errorf("%v is not valid", x)
		}
	}
	for _, x := range formlessTypes() {
		if impl.IsValidType(x) {
			t.Errorf("%v is valid", x)
		}
	}
	if !impl.IsValidType(impl.Type{Kind: 1, Labels: []string{}, Args: []impl.Type{}}) {
		t.Error("empty slices are not as nil ones")
	}
}

func TestIsValidTypeNeedsAllNodes(t *testing.T) {
	i, b := intType(), boolType()
	hosts := []impl.Type{
		listType(i), recType("a", i), sumType("a", i),
		recType("a b c d", i, sumType("p q", listType(b), i), b, listType(recType("x", i))),
		nest(i, mostTypeDepth-1, listType),
	}
	for _, host := range hosts {
		if !impl.IsValidType(host) {
			t.Errorf("%v is not valid", host)
		}
		for _, node := range formlessTypes() {
			for _, x := range withNodeReplaced(host, node) {
				if impl.IsValidType(x) {
					t.Errorf("%v is valid", x)
				}
			}
		}
		for _, x := range withNodeReplaced(host, b) {
			if !impl.IsValidType(x) {
				t.Errorf("%v is not valid", x)
			}
		}
	}
}

func TestIsValidTypeAtMostSize(t *testing.T) {
	for size := 1; size <= 3*mostTypeSize; size++ {
		x := typeOfSize(size)
		if got, depth := sizeAndDepth(x); got != size || depth > mostTypeDepth {
			t.Fatalf("%v is of size %d and depth %d", x, got, depth)
		}
		if got, want := impl.IsValidType(x), size <= mostTypeSize; got != want {
			t.Errorf("with %d nodes IsValidType is %v", size, got)
		}
		// One more node on top.
		for _, x := range []impl.Type{listType(x), recType("a", x), sumType("a", x)} {
			if got, want := impl.IsValidType(x), size < mostTypeSize; got != want {
				t.Errorf("with %d nodes IsValidType(%v) is %v", size+1, x, got)
			}
		}
	}
	// As large as the labels and the depth permit.
	full := nest(intType(), mostTypeDepth-1, func(t impl.Type) impl.Type { return recType("a b c d", t, t, t, t) })
	if impl.IsValidType(full) || impl.SizeOfType(full) != (1<<16-1)/3 {
		t.Error("a type with four parts everywhere")
	}
}

func TestIsValidTypeAtMostDepth(t *testing.T) {
	arounds := []func(impl.Type) impl.Type{
		listType,
		func(t impl.Type) impl.Type { return recType("a", t) },
		func(t impl.Type) impl.Type { return sumType("b", t) },
		func(t impl.Type) impl.Type { return recType("a b", t, boolType()) },
		func(t impl.Type) impl.Type { return recType("a b", boolType(), t) },
		func(t impl.Type) impl.Type { return sumType("a b c", boolType(), t, intType()) },
	}
	for _, around := range arounds {
		for depth := 1; depth <= 12; depth++ {
			x := nest(intType(), depth-1, around)
			if impl.DepthOfType(x) != depth || impl.SizeOfType(x) > mostTypeSize && depth <= mostTypeDepth {
				t.Fatalf("%v is of depth %d", x, impl.DepthOfType(x))
			}
			if got, want := impl.IsValidType(x), depth <= mostTypeDepth; got != want {
				t.Errorf("with a depth of %d IsValidType(%v) is %v", depth, x, got)
			}
		}
	}
	// Both limits together.
	deep := nest(intType(), mostTypeDepth-2, listType)
	if x := recType("a b", deep, typeOfSize(mostTypeSize-mostTypeDepth)); !impl.IsValidType(x) || impl.SizeOfType(x) != mostTypeSize {
		t.Errorf("%v is not valid", x)
	}
	if x := recType("a b", deep, typeOfSize(mostTypeSize-mostTypeDepth+1)); impl.IsValidType(x) {
		t.Errorf("%v is valid", x)
	}
	if x := recType("a b", listType(deep), intType()); impl.IsValidType(x) {
		t.Errorf("%v is valid", x)
	}
}

// TestIsValidTypeOfEveryNode compares the results with the words of the specification, for nodes of all sorts.
func TestIsValidTypeOfEveryNode(t *testing.T) {
	listsOver([]string{"a", "b", "c1", "d", "e", "", "B"}, 5, func(labels []string) {
		areLabels := len(labels) >= 1 && len(labels) <= mostLabels
		for k, label := range labels {
			areLabels = areLabels && label != "" && label != "B" && (k == 0 || labels[k-1] < label)
		}
		for kind := -1; kind <= 7; kind++ {
			for count := max(0, len(labels)-1); count <= len(labels)+2; count++ {
				x := impl.Type{Kind: kind, Labels: labels, Args: ints(count)}
				want := false
				switch kind {
				case 1, 2:
					want = len(labels) == 0 && count == 0
				case 3, 4:
					want = areLabels && count == len(labels)
				case 5:
					want = len(labels) == 0 && count == 1
				}
				if impl.IsValidType(x) != want || impl.IsUniform(x) != (want && kind == 3) {
					t.Fatalf("IsValidType(%v) is %v, IsUniform %v", x, impl.IsValidType(x), impl.IsUniform(x))
				}
			}
		}
	})
}

func TestEqualTypeOfAllPairs(t *testing.T) {
	list := someTypes()
	for _, a := range list {
		for _, b := range list {
			want := sameType(a, b)
			if got := impl.EqualType(a, b); got != want {
				t.Errorf("EqualType(%v, %v) is %v", a, b, got)
			}
		}
	}
	valid := validTypes()
	for j, a := range valid {
		for k, b := range valid {
			if got := impl.EqualType(a, b); got != (j == k) {
				t.Errorf("EqualType(%v, %v) is %v", a, b, got)
			}
		}
	}
}

// sameType is the definition.
func sameType(a impl.Type, b impl.Type) bool {
	if a.Kind != b.Kind || !slices.Equal(a.Labels, b.Labels) || len(a.Args) != len(b.Args) {
		return false
	}
	for k := range a.Args {
		if !sameType(a.Args[k], b.Args[k]) {
			return false
		}
	}
	return true
}

func TestEqualTypeTable(t *testing.T) {
	i, b := intType(), boolType()
	x := recType("a b", i, listType(sumType("p q", b, i)))
	y := recType("a b", i, listType(sumType("p q", b, i)))
	if !impl.EqualType(x, y) || !impl.EqualType(impl.Type{}, impl.Type{}) {
		t.Error("equal types are not")
	}
	empty := impl.Type{Kind: 1, Labels: []string{}, Args: []impl.Type{}}
	if !impl.EqualType(empty, i) || !impl.EqualType(i, empty) || !impl.EqualType(listType(empty), listType(i)) {
		t.Error("empty slices are not as nil ones")
	}
	others := []impl.Type{
		{}, i, x.Args[1], listType(x), recType("a", i),
		sumType("a b", i, listType(sumType("p q", b, i))),
		recType("a c", i, listType(sumType("p q", b, i))),
		recType("b a", i, listType(sumType("p q", b, i))),
		recType("a", i, listType(sumType("p q", b, i))),
		recType("a b c", i, listType(sumType("p q", b, i))),
		recType("a b", b, listType(sumType("p q", b, i))),
		recType("a b", i, listType(recType("p q", b, i))),
		recType("a b", i, listType(sumType("p r", b, i))),
		recType("a b", i, listType(sumType("p q", i, b))),
		recType("a b", i, listType(sumType("p q", b, b))),
		recType("a b", i, listType(sumType("p q", b))),
		recType("a b", i, listType(sumType("p q", b, i, i))),
		recType("a b", i, listType(sumType("p q", b, listType(i)))),
		recType("a b", i),
		recType("a b", i, listType(sumType("p q", b, i)), i),
		recType("a b", listType(sumType("p q", b, i)), i),
	}
	for _, other := range others {
		if impl.EqualType(x, other) || impl.EqualType(other, x) {
			t.Errorf("EqualType(%v, %v) is true", x, other)
		}
	}
}

func TestPartTypeTable(t *testing.T) {
	i, b := intType(), boolType()
	inner := recType("a b", i, listType(b))
	for _, x := range []impl.Type{recType("p q rr z9", inner, i, b, listType(inner)), sumType("p q rr z9", inner, i, b, listType(inner))} {
		for k, label := range x.Labels {
			if part, ok := impl.PartType(x, label); !ok || !sameType(part, x.Args[k]) {
				t.Errorf("PartType(%v, %q) is %v, %v", x, label, part, ok)
			}
		}
		for _, label := range []string{"", "a", "b", "r", "rrr", "z", "P", "z8", "p ", "\xff", "0"} {
			checkNoPart(t, x, label)
		}
	}
	for _, x := range []impl.Type{i, b, listType(i), listType(inner), {}} {
		for _, label := range []string{"", "a", "b", "p", "0"} {
			checkNoPart(t, x, label)
		}
	}
}

func checkNoPart(t *testing.T, x impl.Type, label string) {
	t.Helper()
	if part, ok := impl.PartType(x, label); ok || !isZeroType(part) {
		t.Errorf("PartType(%v, %q) is %v, %v", x, label, part, ok)
	}
}

func TestPartTypeOfInvalidTypes(t *testing.T) {
	for _, x := range formlessTypes() {
		for _, label := range append([]string{"", "a", "b", "c"}, x.Labels...) {
			checkNoPart(t, x, label)
			// The part is valid, another one is not.
			checkNoPart(t, recType("k v", intType(), x), "k")
			checkNoPart(t, sumType("k v", x, intType()), "v")
			checkNoPart(t, recType("k v", intType(), listType(x)), "k")
		}
	}
	large := recType("a b", intType(), typeOfSize(mostTypeSize-2))
	if part, ok := impl.PartType(large, "a"); !ok || !sameType(part, intType()) {
		t.Errorf("PartType(%v, a) is %v, %v", large, part, ok)
	}
	checkNoPart(t, recType("a b", intType(), typeOfSize(mostTypeSize-1)), "a")
	deep := recType("a b", intType(), nest(intType(), mostTypeDepth-2, listType))
	if part, ok := impl.PartType(deep, "b"); !ok || !sameType(part, deep.Args[1]) {
		t.Errorf("PartType(%v, b) is %v, %v", deep, part, ok)
	}
	checkNoPart(t, recType("a b", intType(), nest(intType(), mostTypeDepth-1, listType)), "a")
}

func TestIsUniformTable(t *testing.T) {
	i, b := intType(), boolType()
	pair := func(first impl.Type, second impl.Type) impl.Type { return recType("x y", first, second) }
	uniform := []impl.Type{
		recType("a", i), recType("a", listType(pair(i, b))), recType("a b", i, i), recType("a b", b, b),
		recType("a b c", i, i, i), recType("a b c d", b, b, b, b), recType("a b", listType(i), listType(i)),
		recType("a b", pair(i, b), pair(i, b)), recType("a b c", sumType("p", b), sumType("p", b), sumType("p", b)),
	}
	for _, x := range uniform {
		if !impl.IsUniform(x) {
			t.Errorf("IsUniform(%v) is false", x)
		}
	}
	others := []impl.Type{
		{}, i, b, listType(i), listType(recType("a", i)), sumType("a", i), sumType("a b", i, i),
		recType("a b", i, b), recType("a b", b, i), recType("a b c", i, i, b), recType("a b c", i, b, i), recType("a b c", b, i, i), recType("a b c d", i, i, i, b),
		recType("a b", i, listType(i)), recType("a b", listType(i), listType(b)), recType("a b", recType("p", i), sumType("p", i)),
		recType("a b", recType("p", i), recType("q", i)), recType("a b", pair(i, b), pair(b, i)), recType("a b", pair(i, i), pair(i, b)),
		recType("b a", i, i), recType("a a", i, i), recType("a", i, i), recType("a b", i), recType("", i), {Kind: 3}, recType("a b c d e", ints(5)...),
		recType("a", impl.Type{}), recType("a b", impl.Type{}, impl.Type{}), recType("a b", listType(impl.Type{}), listType(impl.Type{})),
		recType("a b", typeOfSize(15), typeOfSize(15)), recType("a", nest(i, mostTypeDepth-1, listType)),
	}
	for _, x := range others {
		if impl.IsUniform(x) {
			t.Errorf("IsUniform(%v) is true", x)
		}
	}
	if !impl.IsUniform(recType("a b", typeOfSize(14), typeOfSize(14))) || !impl.IsUniform(recType("a", nest(i, mostTypeDepth-2, listType))) {
		t.Error("IsUniform at the limits is false")
	}
}

// TestDeepTypes and the next three are about types that are far from valid, but have results too.
func TestDeepTypes(t *testing.T) {
	const depth = 200000
	deep, copied := nest(intType(), depth, listType), nest(intType(), depth, listType)
	other := nest(boolType(), depth, listType)
	if impl.SizeOfType(deep) != depth+1 || impl.DepthOfType(deep) != depth+1 {
		t.Error("size or depth")
	}
	if !impl.EqualType(deep, copied) || impl.EqualType(deep, other) || impl.EqualType(deep, deep.Args[0]) {
		t.Error("EqualType")
	}
	if impl.IsValidType(deep) || impl.IsUniform(recType("a b", deep, copied)) {
		t.Error("a deep type is valid")
	}
	checkNoPartOf(t, recType("a b", intType(), deep))
}

func checkNoPartOf(t *testing.T, x impl.Type) {
	t.Helper()
	if part, ok := impl.PartType(x, "a"); ok || !isZeroType(part) {
		t.Error("a part of an invalid type")
	}
}

func TestWideTypes(t *testing.T) {
	const width = 100000
	names := slices.Repeat([]string{"a"}, width)
	for kind := range 7 {
		wide := impl.Type{Kind: kind, Labels: names, Args: ints(width)}
		other := impl.Type{Kind: kind, Labels: names, Args: ints(width)}
		if impl.SizeOfType(wide) != width+1 || impl.DepthOfType(wide) != 2 || !impl.EqualType(wide, other) {
			t.Error("size, depth or EqualType")
		}
		other.Args[width-1].Kind = 2
		if impl.EqualType(wide, other) || impl.IsValidType(wide) || impl.IsUniform(wide) {
			t.Error("EqualType, IsValidType or IsUniform")
		}
		checkNoPartOf(t, wide)
	}
}

// TestSharedParts has types with many more nodes than memory holds, as parts of them are the same slices.
func TestSharedParts(t *testing.T) {
	double := func(t impl.Type) impl.Type { return recType("a b", t, t) }
	for times := range 62 {
		x := nest(intType(), times, double)
		if impl.SizeOfType(x) != 1<<(times+1)-1 || impl.DepthOfType(x) != times+1 {
			t.Errorf("doubled %d times the size is %d and the depth %d", times, impl.SizeOfType(x), impl.DepthOfType(x))
		}
	}
	x, y, z := nest(intType(), 60, double), nest(intType(), 60, double), nest(boolType(), 60, double)
	if !impl.EqualType(x, x) || !impl.EqualType(x, y) || impl.EqualType(x, z) || impl.EqualType(x, double(x)) {
		t.Error("EqualType")
	}
	if impl.IsValidType(x) || impl.IsUniform(x) {
		t.Error("a large type is valid")
	}
	checkNoPartOf(t, x)
	// The same array is one slice of parts here and a longer one there.
	both := []impl.Type{listType(intType()), boolType()}
	x = recType("a b", recType("a", both[:1]...), recType("a b", both...))
	if impl.SizeOfType(x) != 8 || impl.DepthOfType(x) != 4 || impl.EqualType(x.Args[0], x.Args[1]) {
		t.Error("slices of the same array")
	}
	if size := impl.SizeOfType(nest(intType(), 100, double)); size != math.MaxInt {
		t.Errorf("the size is %d where an int cannot hold it", size)
	}
}

func TestEndlessTypes(t *testing.T) {
	endless := func(kind int, length int) impl.Type {
		ring := make([]impl.Type, length)
		for k := range ring {
			next := (k + 1) % length
			ring[k] = impl.Type{Kind: kind, Labels: []string{"a"}, Args: ring[next : next+1]}
		}
		return ring[0]
	}
	for kind := range 7 {
		x, y := endless(kind, 1), endless(kind, 1)
		if impl.SizeOfType(x) != math.MaxInt || impl.DepthOfType(x) != math.MaxInt {
			t.Error("size or depth")
		}
		inside := recType("a b", intType(), x)
		if impl.SizeOfType(inside) != math.MaxInt || impl.DepthOfType(inside) != math.MaxInt {
			t.Error("size or depth of a type with an endless part")
		}
		if !impl.EqualType(x, y) || !impl.EqualType(endless(kind, 3), endless(kind, 5)) || impl.EqualType(x, inside) || impl.EqualType(x, intType()) || impl.EqualType(x, endless(kind+1, 2)) {
			t.Error("EqualType")
		}
		if impl.IsValidType(x) || impl.IsUniform(x) || impl.IsValidType(inside) || impl.IsUniform(recType("a b", x, x)) {
			t.Error("an endless type is valid")
		}
		checkNoPartOf(t, x)
		checkNoPartOf(t, inside)
	}
}

// sparedType returns a valid type with unused capacity in all of its slices, where there is something else.
func sparedType(depth int) impl.Type {
	if depth == 0 {
		spared := []impl.Type{intType(), boolType()}
		return impl.Type{Kind: 1, Labels: []string{"k", "v"}[:0], Args: spared[:0]}
	}
	args := []impl.Type{sparedType(depth - 1), sparedType(depth - 1), {Kind: 19}, {Kind: 20}}
	return impl.Type{Kind: 3, Labels: []string{"a", "b", "x", "y"}[:2], Args: args[:2]}
}

// wholeOf shows the unused capacity too.
func wholeOf(t impl.Type) impl.Type {
	whole := impl.Type{Kind: t.Kind, Labels: slices.Clone(t.Labels[:cap(t.Labels)])}
	for _, arg := range t.Args[:cap(t.Args)] {
		whole.Args = append(whole.Args, wholeOf(arg))
	}
	return whole
}

func TestTypesKeepTheirArguments(t *testing.T) {
	for depth := range 4 {
		for kind := range 7 {
			x, y := sparedType(depth), sparedType(depth)
			x.Kind = kind
			before := wholeOf(x)
			impl.SizeOfType(x)
			impl.DepthOfType(x)
			impl.IsValidType(x)
			impl.EqualType(x, y)
			impl.EqualType(y, x)
			impl.EqualType(x, x)
			impl.IsUniform(x)
			for _, label := range []string{"", "a", "b", "x"} {
				impl.PartType(x, label)
			}
			if !reflect.DeepEqual(wholeOf(x), before) {
				t.Errorf("%v became %v", before, wholeOf(x))
			}
		}
	}
}

// overwrite writes into everything that a type has, up to the capacity.
func overwrite(t impl.Type) {
	for _, arg := range t.Args {
		overwrite(arg)
	}
	for k := range t.Args[:cap(t.Args)] {
		t.Args[:cap(t.Args)][k] = impl.Type{Kind: 99}
	}
	for k := range t.Labels[:cap(t.Labels)] {
		t.Labels[:cap(t.Labels)][k] = "zz"
	}
}

func TestPartTypesAreNew(t *testing.T) {
	x := recType("p q", sparedType(3), sparedType(1))
	before := wholeOf(x)
	first, _ := impl.PartType(x, "p")
	second, _ := impl.PartType(x, "p")
	overwrite(first)
	if !reflect.DeepEqual(wholeOf(x), before) || !sameType(second, x.Args[0]) {
		t.Error("the result shares memory with the argument or with another result")
	}
	// The argument has the same slices in two places, the result must not.
	pair := recType("a b", intType(), boolType())
	shared, _ := impl.PartType(recType("p", recType("k v", pair, pair)), "p")
	overwrite(shared.Args[0])
	if !sameType(shared.Args[1], recType("a b", intType(), boolType())) {
		t.Error("two slices of the result share memory")
	}
}

func TestPartTypesShareNoStrings(t *testing.T) {
	whole := strings.Repeat("abcd", 2)
	a, b := whole[:2], whole[1:3]
	x := impl.Type{Kind: 3, Labels: []string{b}, Args: []impl.Type{{Kind: 4, Labels: []string{a, b}, Args: ints(2)}}}
	part, ok := impl.PartType(x, b)
	if !ok || len(part.Labels) != 2 {
		t.Fatal(part, ok)
	}
	for _, label := range part.Labels {
		if shareMemory(whole, label) {
			t.Errorf("%q is in the memory of the argument", label)
		}
	}
}
