package tests

import (
	"math"
	"math/rand"
	"reflect"
	"slices"
	"strings"
	"testing"

	"loop.example/g00592/impl"
)

// The limits and kinds as the specification states them.
const (
	mostOptic      = 20
	mostOpticDepth = 10
	mostStep       = 1000
)

func idOptic() impl.Optic { return impl.Optic{Kind: 1} }

func fieldOptic(name string) impl.Optic { return impl.Optic{Kind: 2, Name: name} }

func caseOptic(name string) impl.Optic { return impl.Optic{Kind: 3, Name: name} }

func atOptic(n int) impl.Optic { return impl.Optic{Kind: 6, N: n} }

func addOptic(n int) impl.Optic { return impl.Optic{Kind: 7, N: n} }

func wrapOptic(name string) impl.Optic { return impl.Optic{Kind: 10, Name: name} }

func mapOptic(o impl.Optic) impl.Optic { return impl.Optic{Kind: 11, Args: []impl.Optic{o}} }

func thenOptic(a impl.Optic, b impl.Optic) impl.Optic {
	return impl.Optic{Kind: 12, Args: []impl.Optic{a, b}}
}

func elseOptic(a impl.Optic, b impl.Optic) impl.Optic {
	return impl.Optic{Kind: 13, Args: []impl.Optic{a, b}}
}

// ids returns as many optics to the source itself as asked for.
func ids(count int) []impl.Optic {
	return slices.Repeat([]impl.Optic{idOptic()}, count)
}

// nestOptic returns around(around(... o)), nested times.
func nestOptic(o impl.Optic, times int, around func(impl.Optic) impl.Optic) impl.Optic {
	for range times {
		o = around(o)
	}
	return o
}

// opticArounds lists ways to put one optic into another one, deeper by one.
func opticArounds() []func(impl.Optic) impl.Optic {
	return []func(impl.Optic) impl.Optic{
		mapOptic,
		func(o impl.Optic) impl.Optic { return thenOptic(o, idOptic()) },
		func(o impl.Optic) impl.Optic { return thenOptic(fieldOptic("k"), o) },
		func(o impl.Optic) impl.Optic { return elseOptic(o, atOptic(3)) },
		func(o impl.Optic) impl.Optic { return elseOptic(caseOptic("p"), o) },
	}
}

// opticOfSize returns an optic of size nodes, as flat as the kinds permit.
func opticOfSize(size int) impl.Optic {
	switch {
	case size <= 1:
		return fieldOptic("a")
	case size == 2:
		return mapOptic(addOptic(-5))
	}
	half := (size - 1) / 2
	o := thenOptic(opticOfSize(half), opticOfSize(size-1-half))
	o.Kind += size % 2
	return o
}

// leafOptics lists optics without Args, all different.
func leafOptics() []impl.Optic {
	list := []impl.Optic{idOptic(), {Kind: 4}, {Kind: 5}, {Kind: 8}, {Kind: 9}}
	for _, name := range []string{"a", "b", "z", "aa", "a0", "z9", "abcd", "a999", "zzzz"} {
		list = append(list, fieldOptic(name), caseOptic(name), wrapOptic(name))
	}
	for _, n := range []int{0, 1, 2, 255, 256, mostStep - 1, mostStep} {
		list = append(list, atOptic(n), addOptic(n))
	}
	for _, n := range []int{-1, -2, -256, 1 - mostStep, -mostStep} {
		list = append(list, addOptic(n))
	}
	return list
}

// someValidOptics lists optics, all different.
func someValidOptics() []impl.Optic {
	list := leafOptics()
	for _, leaf := range leafOptics() {
		for _, around := range opticArounds() {
			list = append(list, around(leaf))
		}
	}
	id, each := idOptic(), impl.Optic{Kind: 4}
	list = append(list,
		mapOptic(mapOptic(id)), mapOptic(thenOptic(id, id)), mapOptic(elseOptic(id, id)), mapOptic(mapOptic(each)),
		elseOptic(each, id), thenOptic(each, each), elseOptic(each, each),
		thenOptic(thenOptic(id, each), each), thenOptic(id, thenOptic(each, each)), elseOptic(elseOptic(id, each), each), elseOptic(id, elseOptic(each, each)),
		thenOptic(elseOptic(id, each), each), elseOptic(thenOptic(id, each), each), thenOptic(mapOptic(id), mapOptic(each)), thenOptic(mapOptic(each), mapOptic(id)),
		thenOptic(fieldOptic("b"), thenOptic(each, caseOptic("p"))), elseOptic(thenOptic(caseOptic("p"), fieldOptic("b")), caseOptic("q")),
	)
	for size := 8; size <= mostOptic; size++ {
		list = append(list, opticOfSize(size))
	}
	for depth := 4; depth <= mostOpticDepth; depth++ {
		for _, around := range opticArounds() {
			list = append(list, nestOptic(each, depth-1, around))
		}
	}
	return list
}

// opticKinds are the numbers of the kinds with those next to them, and some that are equal to kinds in fewer bits.
func opticKinds() []int {
	kinds := []int{-256, 256, 256 + 1, 256 + 11, 1<<16 + 12, 1 << 32, 1<<32 + 1, 1<<32 + 11, 1<<32 + 13, -1 << 32, 1 - 1<<32, 1<<62 + 1, math.MinInt, math.MinInt + 1, math.MinInt + 12, math.MaxInt, math.MaxInt - 1}
	for kind := -20; kind <= 40; kind++ {
		kinds = append(kinds, kind)
	}
	return kinds
}

// arityOfKind is the definition of ArityOf.
func arityOfKind(kind int) int {
	switch kind {
	case 1, 2, 3, 4, 5, 6, 7, 8, 9, 10:
		return 0
	case 11:
		return 1
	case 12, 13:
		return 2
	}
	return -1
}

// isOpticNode is the definition of the thirteen forms.
func isOpticNode(o impl.Optic) bool {
	if len(o.Args) != arityOfKind(o.Kind) {
		return false
	}
	switch o.Kind {
	case 2, 3, 10:
		return nameText.MatchString(o.Name) && o.N == 0
	case 6:
		return o.Name == "" && o.N >= 0 && o.N <= mostStep
	case 7:
		return o.Name == "" && o.N >= -mostStep && o.N <= mostStep
	}
	return o.Name == "" && o.N == 0
}

func areOpticNodes(o impl.Optic) bool {
	for _, arg := range o.Args {
		if !areOpticNodes(arg) {
			return false
		}
	}
	return isOpticNode(o)
}

// opticExtent is the definition of SizeOf and DepthOf.
func opticExtent(o impl.Optic) (int, int) {
	size, depth := 1, 0
	for _, arg := range o.Args {
		s, d := opticExtent(arg)
		size, depth = size+s, max(depth, d)
	}
	return size, depth + 1
}

// isOpticBy is the definition of IsOptic.
func isOpticBy(o impl.Optic) bool {
	size, depth := opticExtent(o)
	return size <= mostOptic && depth <= mostOpticDepth && areOpticNodes(o)
}

// sameOptic is the definition of EqualOptic.
func sameOptic(a impl.Optic, b impl.Optic) bool {
	if a.Kind != b.Kind || a.Name != b.Name || a.N != b.N || len(a.Args) != len(b.Args) {
		return false
	}
	for k := range a.Args {
		if !sameOptic(a.Args[k], b.Args[k]) {
			return false
		}
	}
	return true
}

// plainOptic returns an optic of a kind with OpId for its Args.
func plainOptic(kind int) impl.Optic {
	o := impl.Optic{Kind: kind, Args: ids(max(arityOfKind(kind), 0))}
	if kind == 2 || kind == 3 || kind == 10 {
		o.Name = "a"
	}
	return o
}

// wrongSteps lists numbers that are beyond those of OpAt and OpAdd, or equal to one of them in fewer bits.
func wrongSteps() []int {
	return []int{mostStep + 1, mostStep + 2, 1024, 1 << 16, 1 << 32, 1<<32 + 1, 1<<62 + 5, math.MaxInt, math.MaxInt - 1, -mostStep - 1, -mostStep - 2, -1 << 32, math.MinInt, math.MinInt + 1}
}

// formlessOptics lists nodes that no optic has.
func formlessOptics() []impl.Optic {
	list := []impl.Optic{{}, {Name: "a"}, {N: 1}, {Args: ids(1)}, {Args: ids(2)}}
	for kind := 1; kind <= 13; kind++ {
		list = append(list, formlessOfKind(kind)...)
	}
	for _, kind := range opticKinds() {
		if arityOfKind(kind) < 0 {
			list = append(list, impl.Optic{Kind: kind}, impl.Optic{Kind: kind, Name: "a"}, impl.Optic{Kind: kind, N: 1}, impl.Optic{Kind: kind, Args: ids(1)}, impl.Optic{Kind: kind, Args: ids(2)})
		}
	}
	for _, n := range []int{-1, -2, -mostStep, 1 - mostStep} {
		list = append(list, atOptic(n))
	}
	return list
}

// formlessOfKind lists nodes of a kind of which one field is not as the kind needs it.
func formlessOfKind(kind int) []impl.Optic {
	var list []impl.Optic
	add := func(change func(*impl.Optic)) {
		o := plainOptic(kind)
		change(&o)
		list = append(list, o)
	}
	for count := range 6 {
		if count != arityOfKind(kind) {
			add(func(o *impl.Optic) { o.Args = ids(count) })
		}
	}
	if kind == 2 || kind == 3 || kind == 10 {
		for _, name := range wrongNames() {
			add(func(o *impl.Optic) { o.Name = name })
		}
	} else {
		for _, name := range append(wrongNames(), "a", "z9", "abcd", "id", "each") {
			if name != "" {
				add(func(o *impl.Optic) { o.Name = name })
			}
		}
	}
	for _, n := range wrongSteps() {
		add(func(o *impl.Optic) { o.N = n })
	}
	if kind != 6 && kind != 7 {
		for _, n := range []int{1, 2, -1, -2, mostStep, -mostStep} {
			add(func(o *impl.Optic) { o.N = n })
		}
	}
	return list
}

// someOptics lists optics of all sorts: valid ones, formless ones, ones with formless parts and ones beyond the limits.
func someOptics() []impl.Optic {
	list := slices.Concat(someValidOptics(), formlessOptics())
	for k, o := range formlessOptics() {
		around := opticArounds()[k%len(opticArounds())]
		list = append(list, around(o), thenOptic(o, o))
	}
	for size := mostOptic + 1; size < 40; size++ {
		list = append(list, opticOfSize(size))
	}
	for depth := mostOpticDepth + 1; depth < 15; depth++ {
		for _, around := range opticArounds() {
			list = append(list, nestOptic(idOptic(), depth-1, around))
		}
	}
	for count := 3; count < 9; count++ {
		list = append(list, impl.Optic{Kind: 12, Args: ids(count)}, impl.Optic{Kind: 0, Args: ids(count)})
	}
	return list
}

// withOpticReplaced lists, for each node of o, o with node in its place.
func withOpticReplaced(o impl.Optic, node impl.Optic) []impl.Optic {
	list := []impl.Optic{node}
	for k, arg := range o.Args {
		for _, replaced := range withOpticReplaced(arg, node) {
			changed := o
			changed.Args = slices.Clone(o.Args)
			changed.Args[k] = replaced
			list = append(list, changed)
		}
	}
	return list
}

// hostOptics lists optics into which nodes are put.
func hostOptics() []impl.Optic {
	return []impl.Optic{
		idOptic(), mapOptic(idOptic()), thenOptic(idOptic(), idOptic()), elseOptic(idOptic(), idOptic()),
		thenOptic(fieldOptic("b"), elseOptic(mapOptic(thenOptic(caseOptic("p"), addOptic(1))), thenOptic(atOptic(0), wrapOptic("w")))),
		nestOptic(idOptic(), mostOpticDepth-1, mapOptic),
		opticOfSize(mostOptic - 3),
	}
}

func TestOpticConstants(t *testing.T) {
	if impl.MaxOptic != mostOptic || impl.MaxOpticDepth != mostOpticDepth || impl.MaxStep != mostStep {
		t.Error("limits")
	}
	kinds := []int{impl.OpId, impl.OpField, impl.OpCase, impl.OpEach, impl.OpAll, impl.OpAt, impl.OpAdd, impl.OpNot, impl.OpRev, impl.OpWrap, impl.OpMap, impl.OpThen, impl.OpElse}
	if !slices.Equal(kinds, []int{1, 2, 3, 4, 5, 6, 7, 8, 9, 10, 11, 12, 13}) {
		t.Error("kinds", kinds)
	}
}

func TestArityOfTable(t *testing.T) {
	arities := map[int]int{
		impl.OpId: 0, impl.OpField: 0, impl.OpCase: 0, impl.OpEach: 0, impl.OpAll: 0, impl.OpAt: 0, impl.OpAdd: 0, impl.OpNot: 0, impl.OpRev: 0, impl.OpWrap: 0,
		impl.OpMap: 1, impl.OpThen: 2, impl.OpElse: 2,
		0: -1, 14: -1, 15: -1, 26: -1, 1000: -1, -1: -1, -2: -1, -11: -1, -12: -1, -13: -1, math.MaxInt: -1, math.MinInt: -1,
	}
	for kind, want := range arities {
		if got := impl.ArityOf(kind); got != want {
			t.Errorf("ArityOf(%d) is %d, want %d", kind, got, want)
		}
	}
	for _, kind := range opticKinds() {
		if got, want := impl.ArityOf(kind), arityOfKind(kind); got != want {
			t.Errorf("ArityOf(%d) is %d, want %d", kind, got, want)
		}
	}
}

func TestSizeOfAndDepthOfTable(t *testing.T) {
	id := idOptic()
	cases := []struct {
		o     impl.Optic
		size  int
		depth int
	}{
		{impl.Optic{}, 1, 1},
		{id, 1, 1},
		{fieldOptic("abc"), 1, 1},
		{atOptic(1000), 1, 1},
		{addOptic(-1000), 1, 1},
		{impl.Optic{Kind: 4, Args: []impl.Optic{}}, 1, 1},
		{mapOptic(id), 2, 2},
		{thenOptic(id, fieldOptic("a")), 3, 2},
		{elseOptic(caseOptic("a"), caseOptic("b")), 3, 2},
		{thenOptic(fieldOptic("a"), mapOptic(id)), 4, 3},
		{thenOptic(mapOptic(id), fieldOptic("a")), 4, 3},
		{thenOptic(mapOptic(mapOptic(id)), thenOptic(id, id)), 7, 4},
		{elseOptic(thenOptic(id, id), mapOptic(mapOptic(id))), 7, 4},
		{nestOptic(id, 9, mapOptic), 10, 10},
		{nestOptic(id, 50, mapOptic), 51, 51},
		// The nodes are those of Args, whatever the other fields are.
		{impl.Optic{Kind: 1, Args: ids(2)}, 3, 2},
		{impl.Optic{Kind: -1, Name: "abcde", N: 77, Args: []impl.Optic{mapOptic(id)}}, 3, 3},
		{impl.Optic{Kind: 11}, 1, 1},
		{impl.Optic{Kind: 12}, 1, 1},
		{impl.Optic{Kind: 11, Args: ids(3)}, 4, 2},
		{impl.Optic{Kind: 12, Args: ids(9)}, 10, 2},
		{impl.Optic{Kind: 13, Args: []impl.Optic{id, id, mapOptic(mapOptic(id)), id}}, 7, 4},
		{impl.Optic{Kind: 99, Args: []impl.Optic{{Args: ids(5)}, {Args: ids(7)}}}, 15, 3},
		{impl.Optic{Args: ids(5000)}, 5001, 2},
	}
	for _, c := range cases {
		if size := impl.SizeOf(c.o); size != c.size {
			t.Errorf("SizeOf(%v) is %d, want %d", c.o, size, c.size)
		}
		if depth := impl.DepthOf(c.o); depth != c.depth {
			t.Errorf("DepthOf(%v) is %d, want %d", c.o, depth, c.depth)
		}
	}
}

// TestOpticSizesAreThoseOfParts is promise 7.
func TestOpticSizesAreThoseOfParts(t *testing.T) {
	for _, o := range someOptics() {
		checkOpticSizes(t, o)
	}
	source := rand.New(rand.NewSource(7))
	for range 3000 {
		checkOpticSizes(t, randomTree(source, 1+source.Intn(60)))
	}
}

func checkOpticSizes(t *testing.T, o impl.Optic) {
	t.Helper()
	size, depth := 1, 0
	for _, arg := range o.Args {
		size += impl.SizeOf(arg)
		depth = max(depth, impl.DepthOf(arg))
	}
	if impl.SizeOf(o) != size || impl.DepthOf(o) != depth+1 {
		t.Errorf("%v has the size %d and the depth %d, its parts %d and %d", o, impl.SizeOf(o), impl.DepthOf(o), size-1, depth)
	}
	size, depth = opticExtent(o)
	if impl.SizeOf(o) != size || impl.DepthOf(o) != depth {
		t.Errorf("%v has the size %d and the depth %d, not %d and %d", o, impl.SizeOf(o), impl.DepthOf(o), size, depth)
	}
}

// randomTree returns a tree of size nodes with any kinds and any numbers of Args.
func randomTree(source *rand.Rand, size int) impl.Optic {
	o := impl.Optic{Kind: source.Intn(16) - 1, N: source.Intn(3) - 1}
	for left := size - 1; left > 0; {
		part := 1 + source.Intn(left)
		o.Args = append(o.Args, randomTree(source, part))
		left -= part
	}
	return o
}

// randomOptic returns a tree of size nodes that all have forms.
func randomOptic(source *rand.Rand, size int) impl.Optic {
	switch {
	case size == 1:
		leaves := leafOptics()
		return leaves[source.Intn(len(leaves))]
	case size == 2 || source.Intn(4) == 0:
		return mapOptic(randomOptic(source, size-1))
	}
	part := 1 + source.Intn(size-2)
	o := thenOptic(randomOptic(source, part), randomOptic(source, size-1-part))
	o.Kind += source.Intn(2)
	return o
}

func TestIsOpticTable(t *testing.T) {
	for _, o := range someValidOptics() {
		if !impl.IsOptic(o) {
			t.Errorf("IsOptic(%v) is false", o)
		}
	}
	for _, o := range formlessOptics() {
		if impl.IsOptic(o) {
			t.Errorf("IsOptic(%v) is true", o)
		}
	}
	for kind := 1; kind <= 10; kind++ {
		o := plainOptic(kind)
		o.Args = []impl.Optic{}
		if !impl.IsOptic(o) || !impl.IsOptic(mapOptic(o)) {
			t.Errorf("IsOptic(%v) is false with empty Args", o)
		}
	}
}

func TestIsOpticNeedsTheArgsOfItsKind(t *testing.T) {
	for _, kind := range opticKinds() {
		for count := range 6 {
			for _, arg := range []impl.Optic{idOptic(), fieldOptic("a"), atOptic(1), mapOptic(idOptic())} {
				o := plainOptic(kind)
				o.Args = slices.Repeat([]impl.Optic{arg}, count)
				want := count == arityOfKind(kind)
				if impl.IsOptic(o) != want || impl.IsOptic(elseOptic(idOptic(), o)) != want || want != (count == impl.ArityOf(kind)) {
					t.Errorf("IsOptic(%v) is not %v", o, want)
				}
			}
		}
	}
}

// TestIsOpticNeedsTheNameOfItsKind has each kind with names, and with what is none.
func TestIsOpticNeedsTheNameOfItsKind(t *testing.T) {
	names := append(wrongNames(), "a", "z", "m5", "abcd", "a999", "id", "each", "all", "at", "add", "not", "rev", "wrap", "map")
	for b := range 256 {
		names = append(names, string([]byte{byte(b)}), string([]byte{'a', byte(b)}))
	}
	for kind := 1; kind <= 13; kind++ {
		for _, name := range names {
			o := plainOptic(kind)
			o.Name = name
			want := name == ""
			if kind == 2 || kind == 3 || kind == 10 {
				want = nameText.MatchString(name)
			}
			if impl.IsOptic(o) != want || impl.IsOptic(thenOptic(o, idOptic())) != want {
				t.Errorf("IsOptic(%v) is not %v", o, want)
			}
		}
	}
}

// TestIsOpticNeedsTheNumberOfItsKind has each kind with each N around the limits.
func TestIsOpticNeedsTheNumberOfItsKind(t *testing.T) {
	numbers := wrongSteps()
	for n := -mostStep - 50; n <= mostStep+50; n++ {
		numbers = append(numbers, n)
	}
	for kind := 1; kind <= 13; kind++ {
		for _, n := range numbers {
			o := plainOptic(kind)
			o.N = n
			want := n == 0
			switch kind {
			case 6:
				want = n >= 0 && n <= mostStep
			case 7:
				want = n >= -mostStep && n <= mostStep
			}
			if impl.IsOptic(o) != want || impl.IsOptic(mapOptic(o)) != want {
				t.Errorf("IsOptic(%v) is not %v", o, want)
			}
		}
	}
}

// TestIsOpticOfEveryNode compares the results with the words of the specification, for nodes of all sorts.
func TestIsOpticOfEveryNode(t *testing.T) {
	numbers := []int{0, 1, -1, 5, mostStep, mostStep + 1, -mostStep, -mostStep - 1, math.MinInt, math.MaxInt}
	found := [14]int{}
	for kind := -2; kind <= 16; kind++ {
		for count := range 5 {
			for _, n := range numbers {
				for _, name := range []string{"", "a", "z9", "abcd", "B", "0", "abcde", " "} {
					o := impl.Optic{Kind: kind, Name: name, N: n, Args: ids(count)}
					want := isOpticNode(o)
					if impl.IsOptic(o) != want {
						t.Fatalf("IsOptic(%v) is %v", o, !want)
					}
					if want {
						found[kind]++
					}
				}
			}
		}
	}
	if found != [14]int{0, 1, 3, 3, 1, 1, 4, 6, 1, 1, 3, 1, 1, 1} {
		t.Errorf("%v optics of the kinds", found)
	}
}

func TestIsOpticNeedsAllNodes(t *testing.T) {
	for _, host := range hostOptics() {
		if !impl.IsOptic(host) {
			t.Errorf("IsOptic(%v) is false", host)
		}
		for _, node := range formlessOptics() {
			for _, o := range withOpticReplaced(host, node) {
				if impl.IsOptic(o) {
					t.Errorf("IsOptic(%v) is true", o)
				}
			}
		}
		for _, node := range leafOptics() {
			for _, o := range withOpticReplaced(host, node) {
				if !impl.IsOptic(o) {
					t.Errorf("IsOptic(%v) is false", o)
				}
			}
		}
	}
}

func TestIsOpticAtMostSize(t *testing.T) {
	for size := 1; size <= 60; size++ {
		o := opticOfSize(size)
		if nodes, depth := opticExtent(o); nodes != size || depth > mostOpticDepth-1 {
			t.Fatalf("%v is of size %d and depth %d", o, nodes, depth)
		}
		if got, want := impl.IsOptic(o), size <= mostOptic; got != want {
			t.Errorf("with %d nodes IsOptic is %v", size, got)
		}
		for _, around := range opticArounds() {
			x := around(o)
			nodes, _ := opticExtent(x)
			if got, want := impl.IsOptic(x), nodes <= mostOptic; got != want {
				t.Errorf("with %d nodes IsOptic(%v) is %v", nodes, x, got)
			}
		}
	}
	// As large as the depth permits.
	double := func(o impl.Optic) impl.Optic { return thenOptic(o, o) }
	for depth := 1; depth <= 16; depth++ {
		o := nestOptic(idOptic(), depth-1, double)
		if got, want := impl.IsOptic(o), 1<<depth-1 <= mostOptic; got != want {
			t.Errorf("with two parts everywhere and a depth of %d IsOptic is %v", depth, got)
		}
	}
}

func TestIsOpticAtMostDepth(t *testing.T) {
	for k, around := range opticArounds() {
		for depth := 1; depth <= 2*mostOpticDepth+2; depth++ {
			o := nestOptic(idOptic(), depth-1, around)
			if impl.DepthOf(o) != depth || impl.SizeOf(o) > mostOptic && depth <= mostOpticDepth {
				t.Fatalf("%v is of depth %d", o, impl.DepthOf(o))
			}
			if got, want := impl.IsOptic(o), depth <= mostOpticDepth; got != want {
				t.Errorf("with a depth of %d within %d IsOptic is %v", depth, k, got)
			}
		}
	}
	// Both limits together.
	deep := nestOptic(idOptic(), mostOpticDepth-2, mapOptic)
	rest := mostOptic - mostOpticDepth
	list := []struct {
		o    impl.Optic
		want bool
	}{
		{thenOptic(deep, opticOfSize(rest)), true},
		{elseOptic(opticOfSize(rest), deep), true},
		{thenOptic(deep, opticOfSize(rest+1)), false},
		{elseOptic(opticOfSize(rest+1), deep), false},
		{thenOptic(mapOptic(deep), idOptic()), false},
		{elseOptic(idOptic(), mapOptic(deep)), false},
		{thenOptic(mapOptic(deep), opticOfSize(rest-1)), false},
		{mapOptic(mapOptic(deep)), false},
		{mapOptic(deep), true},
	}
	for _, c := range list {
		if got := impl.IsOptic(c.o); got != c.want {
			t.Errorf("IsOptic(%v) is %v", c.o, got)
		}
	}
	// The node at the greatest depth, and the one beyond it, has no form.
	for depth := mostOpticDepth - 1; depth <= mostOpticDepth+1; depth++ {
		if impl.IsOptic(nestOptic(impl.Optic{}, depth-1, mapOptic)) {
			t.Errorf("IsOptic with a formless node at the depth %d is true", depth)
		}
	}
}

func TestIsOpticOfRandomTrees(t *testing.T) {
	source := rand.New(rand.NewSource(20))
	count := [2]int{}
	for range 20000 {
		o := randomOptic(source, 1+source.Intn(30))
		want := isOpticBy(o)
		if impl.IsOptic(o) != want {
			t.Fatalf("IsOptic(%v) is %v", o, !want)
		}
		if want {
			count[1]++
		} else {
			count[0]++
		}
		o = randomTree(source, 1+source.Intn(12))
		if impl.IsOptic(o) != isOpticBy(o) {
			t.Fatalf("IsOptic(%v) is %v", o, impl.IsOptic(o))
		}
	}
	if count[0] < 1000 || count[1] < 1000 {
		t.Errorf("%v optics that are none and that are some", count)
	}
}

func TestEqualOpticOfAllPairs(t *testing.T) {
	list := someOptics()
	for j, a := range list {
		if !impl.EqualOptic(a, a) {
			t.Errorf("EqualOptic(%v, itself) is false", a)
		}
		for _, b := range list[j:] {
			want := sameOptic(a, b)
			if impl.EqualOptic(a, b) != want || impl.EqualOptic(b, a) != want {
				t.Errorf("EqualOptic(%v, %v) is not %v", a, b, want)
			}
		}
	}
	valid := someValidOptics()
	copied := someValidOptics()
	for j, a := range valid {
		for k, b := range copied {
			if got := impl.EqualOptic(a, b); got != (j == k) {
				t.Errorf("EqualOptic(%v, %v) is %v", a, b, got)
			}
		}
	}
}

// TestEqualOpticOfOneChange has nodes that differ in one field each, by themselves and within others.
func TestEqualOpticOfOneChange(t *testing.T) {
	node := func() impl.Optic {
		return impl.Optic{Kind: 12, Name: "na", N: 4, Args: []impl.Optic{fieldOptic("a"), atOptic(1)}}
	}
	changes := []func(*impl.Optic){
		func(o *impl.Optic) { o.Kind = 13 },
		func(o *impl.Optic) { o.Kind = 0 },
		func(o *impl.Optic) { o.Kind = -12 },
		func(o *impl.Optic) { o.Kind = 12 + 1<<32 },
		func(o *impl.Optic) { o.N = 5 },
		func(o *impl.Optic) { o.N = 0 },
		func(o *impl.Optic) { o.N = -4 },
		func(o *impl.Optic) { o.N = 4 + 1<<32 },
		func(o *impl.Optic) { o.Name = "nb" },
		func(o *impl.Optic) { o.Name = "" },
		func(o *impl.Optic) { o.Name = "n" },
		func(o *impl.Optic) { o.Name = "nA" },
		func(o *impl.Optic) { o.Name = "na\x00" },
		func(o *impl.Optic) { o.Args = nil },
		func(o *impl.Optic) { o.Args = []impl.Optic{} },
		func(o *impl.Optic) { o.Args = o.Args[:1] },
		func(o *impl.Optic) { o.Args = o.Args[1:] },
		func(o *impl.Optic) { o.Args = []impl.Optic{atOptic(1), fieldOptic("a")} },
		func(o *impl.Optic) { o.Args = append(o.Args, idOptic()) },
		func(o *impl.Optic) { o.Args = append(o.Args, impl.Optic{}) },
		func(o *impl.Optic) { o.Args[0].Kind = 3 },
		func(o *impl.Optic) { o.Args[0].Name = "b" },
		func(o *impl.Optic) { o.Args[0].N = 1 },
		func(o *impl.Optic) { o.Args[1].Kind = 7 },
		func(o *impl.Optic) { o.Args[1].Name = "a" },
		func(o *impl.Optic) { o.Args[1].N = 2 },
		func(o *impl.Optic) { o.Args[1].N = -1 },
		func(o *impl.Optic) { o.Args[1].Args = ids(1) },
		func(o *impl.Optic) { o.Args[0].Args = []impl.Optic{{}} },
	}
	arounds := append(opticArounds(), func(o impl.Optic) impl.Optic { return o }, func(o impl.Optic) impl.Optic {
		return impl.Optic{Kind: -5, N: 3, Args: []impl.Optic{idOptic(), thenOptic(mapOptic(o), idOptic()), addOptic(1)}}
	})
	for j, around := range arounds {
		if !impl.EqualOptic(around(node()), around(node())) {
			t.Error("equal optics are not")
		}
		for k, change := range changes {
			changed := node()
			change(&changed)
			if impl.EqualOptic(around(node()), around(changed)) || impl.EqualOptic(around(changed), around(node())) {
				t.Errorf("EqualOptic is true after change %d within %d", k, j)
			}
		}
	}
}

func TestEqualOpticOfEmptyArgs(t *testing.T) {
	for kind := -1; kind <= 15; kind++ {
		bare, empty := impl.Optic{Kind: kind, Name: "a", N: 1}, impl.Optic{Kind: kind, Name: "a", N: 1, Args: []impl.Optic{}}
		spared := impl.Optic{Kind: kind, Name: "a", N: 1, Args: ids(3)[:0]}
		for _, a := range []impl.Optic{bare, empty, spared} {
			for _, b := range []impl.Optic{bare, empty, spared} {
				if !impl.EqualOptic(a, b) || !impl.EqualOptic(thenOptic(a, b), thenOptic(b, a)) {
					t.Errorf("EqualOptic(%#v, %#v) is false", a, b)
				}
			}
			if impl.EqualOptic(a, impl.Optic{Kind: kind, Name: "a", N: 1, Args: ids(1)}) {
				t.Error("EqualOptic of no Args and of one is true")
			}
		}
	}
	if !impl.EqualOptic(impl.Optic{}, impl.Optic{}) || !impl.EqualOptic(impl.Optic{}, impl.Optic{Args: []impl.Optic{}}) {
		t.Error("the zero optics are not equal")
	}
}

// checkHugeOptic checks IsOptic and EqualOptic for an optic that is far beyond the limits.
func checkHugeOptic(t *testing.T, o impl.Optic) {
	t.Helper()
	if impl.IsOptic(o) || impl.IsOptic(mapOptic(o)) || impl.IsOptic(thenOptic(idOptic(), o)) {
		t.Error("IsOptic of a huge optic is true")
	}
	if !impl.EqualOptic(o, o) || impl.EqualOptic(o, idOptic()) || impl.EqualOptic(idOptic(), o) || impl.EqualOptic(elseOptic(o, idOptic()), elseOptic(idOptic(), o)) {
		t.Error("EqualOptic of a huge optic")
	}
}

// TestDeepOptics and the next three are about optics that are far beyond the limits, but have results too.
func TestDeepOptics(t *testing.T) {
	const depth = 100000
	for k, around := range opticArounds() {
		deep, copied, other := nestOptic(idOptic(), depth, around), nestOptic(idOptic(), depth, around), nestOptic(addOptic(1), depth, around)
		size := depth + 1
		if k > 0 {
			size += depth
		}
		if impl.SizeOf(deep) != size || impl.DepthOf(deep) != depth+1 {
			t.Error("SizeOf or DepthOf")
		}
		if !impl.EqualOptic(deep, copied) || impl.EqualOptic(deep, other) || impl.EqualOptic(deep, around(deep)) {
			t.Error("EqualOptic")
		}
		checkHugeOptic(t, deep)
	}
}

func TestWideOptics(t *testing.T) {
	const width = 20000
	for kind := -1; kind <= 15; kind++ {
		wide, other := impl.Optic{Kind: kind, Args: ids(width)}, impl.Optic{Kind: kind, Args: ids(width)}
		if impl.SizeOf(wide) != width+1 || impl.DepthOf(wide) != 2 || !impl.EqualOptic(wide, other) {
			t.Error("SizeOf, DepthOf or EqualOptic")
		}
		other.Args[width-1].N = 1
		if impl.EqualOptic(wide, other) {
			t.Error("EqualOptic")
		}
		other.Args[width/2] = nestOptic(idOptic(), 5, mapOptic)
		if impl.SizeOf(other) != width+6 || impl.DepthOf(other) != 7 {
			t.Error("SizeOf or DepthOf")
		}
		checkHugeOptic(t, wide)
		checkHugeOptic(t, impl.Optic{Kind: kind, Name: strings.Repeat("a", width)})
	}
}

// TestSharedOptics has optics with many more nodes than memory holds, as parts of them are the same slices.
func TestSharedOptics(t *testing.T) {
	double := func(o impl.Optic) impl.Optic { return thenOptic(o, o) }
	for times := range 62 {
		o := nestOptic(idOptic(), times, double)
		if impl.SizeOf(o) != 1<<(times+1)-1 || impl.DepthOf(o) != times+1 {
			t.Errorf("doubled %d times the size is %d and the depth %d", times, impl.SizeOf(o), impl.DepthOf(o))
		}
	}
	o, copied, other := nestOptic(idOptic(), 60, double), nestOptic(idOptic(), 60, double), nestOptic(addOptic(1), 60, double)
	if !impl.EqualOptic(o, copied) || impl.EqualOptic(o, other) || impl.EqualOptic(o, double(o)) {
		t.Error("EqualOptic")
	}
	checkHugeOptic(t, o)
	if size := impl.SizeOf(nestOptic(idOptic(), 100, double)); size != math.MaxInt {
		t.Errorf("the size is %d where an int cannot hold it", size)
	}
	// The same array is one slice of parts here and a longer one there.
	both := []impl.Optic{mapOptic(idOptic()), fieldOptic("a")}
	o = thenOptic(impl.Optic{Kind: 11, Args: both[:1]}, elseOptic(impl.Optic{Kind: 12, Args: both}, impl.Optic{Kind: 11, Args: both[1:]}))
	if impl.SizeOf(o) != 11 || impl.DepthOf(o) != 5 || !impl.IsOptic(o) {
		t.Error("slices of the same array")
	}
	if impl.EqualOptic(o.Args[0], o.Args[1].Args[1]) || impl.EqualOptic(impl.Optic{Args: both[:1]}, impl.Optic{Args: both}) {
		t.Error("EqualOptic of slices of the same array")
	}
}

func TestEndlessOptics(t *testing.T) {
	endless := func(kind int, length int) impl.Optic {
		ring := make([]impl.Optic, length)
		for k := range ring {
			next := (k + 1) % length
			ring[k] = impl.Optic{Kind: kind, Args: ring[next : next+1]}
		}
		return ring[0]
	}
	for kind := range 15 {
		o := endless(kind, 1)
		inside := thenOptic(idOptic(), o)
		for _, x := range []impl.Optic{o, inside, endless(kind, 7)} {
			if impl.SizeOf(x) != math.MaxInt || impl.DepthOf(x) != math.MaxInt {
				t.Error("SizeOf or DepthOf")
			}
			checkHugeOptic(t, x)
		}
		if !impl.EqualOptic(o, endless(kind, 1)) || !impl.EqualOptic(endless(kind, 3), endless(kind, 5)) || impl.EqualOptic(o, endless(kind+1, 2)) || impl.EqualOptic(o, inside) {
			t.Error("EqualOptic")
		}
	}
	// Two parts everywhere, and no end.
	pair := make([]impl.Optic, 2)
	pair[0], pair[1] = impl.Optic{Kind: 12, Args: pair}, impl.Optic{Kind: 13, Args: pair}
	for _, o := range pair {
		if impl.SizeOf(o) != math.MaxInt || impl.DepthOf(o) != math.MaxInt {
			t.Error("SizeOf or DepthOf")
		}
		checkHugeOptic(t, o)
	}
}

// sparedOptic returns an optic with unused capacity in all of its slices, where there is something else.
func sparedOptic(kind int, depth int) impl.Optic {
	if depth == 0 {
		spared := []impl.Optic{fieldOptic("a"), {Kind: 19, N: 3}}
		return impl.Optic{Kind: 1, Args: spared[:0]}
	}
	args := []impl.Optic{sparedOptic(12, depth-1), sparedOptic(13, depth-1), {Kind: 19}, {Kind: 20, Args: ids(1)}}
	return impl.Optic{Kind: kind, Args: args[:2]}
}

// wholeOfOptic shows the unused capacity too.
func wholeOfOptic(o impl.Optic) impl.Optic {
	whole := o
	whole.Args = nil
	for _, arg := range o.Args[:cap(o.Args)] {
		whole.Args = append(whole.Args, wholeOfOptic(arg))
	}
	return whole
}

func TestOpticsKeepTheirArguments(t *testing.T) {
	for depth := range 5 {
		for kind := -1; kind <= 15; kind++ {
			o, other := sparedOptic(kind, depth), sparedOptic(12, depth)
			before, otherBefore := wholeOfOptic(o), wholeOfOptic(other)
			for range 2 {
				impl.SizeOf(o)
				impl.DepthOf(o)
				impl.IsOptic(o)
				impl.EqualOptic(o, other)
				impl.EqualOptic(other, o)
				impl.EqualOptic(o, o)
			}
			if !reflect.DeepEqual(wholeOfOptic(o), before) || !reflect.DeepEqual(wholeOfOptic(other), otherBefore) {
				t.Errorf("%v became %v, or %v %v", before, wholeOfOptic(o), otherBefore, wholeOfOptic(other))
			}
		}
	}
	// What is behind the length is not part of the optic.
	o := sparedOptic(12, 3)
	if !impl.IsOptic(o) || impl.SizeOf(o) != 15 || impl.DepthOf(o) != 4 {
		t.Error("an optic with unused capacity")
	}
	other := sparedOptic(12, 3)
	other.Args[:3][2], other.Args[0].Args[:4][3] = mapOptic(idOptic()), addOptic(1)
	if !impl.EqualOptic(o, other) || !impl.EqualOptic(other, o) {
		t.Error("EqualOptic of optics with other unused capacity is false")
	}
}

// TestOpticResultsDependOnArgumentsOnly calls the functions again after others, and after the optic has changed.
func TestOpticResultsDependOnArgumentsOnly(t *testing.T) {
	o := thenOptic(fieldOptic("a"), mapOptic(idOptic()))
	copied := thenOptic(fieldOptic("a"), mapOptic(idOptic()))
	for range 3 {
		if impl.SizeOf(o) != 4 || impl.DepthOf(o) != 3 || !impl.IsOptic(o) || !impl.EqualOptic(o, copied) {
			t.Error("a result is another one when the function is called again")
		}
		o.Args[1].Args[0] = thenOptic(idOptic(), impl.Optic{})
		if impl.SizeOf(o) != 6 || impl.DepthOf(o) != 4 || impl.IsOptic(o) || impl.EqualOptic(o, copied) {
			t.Error("a result is kept when the optic has changed")
		}
		o.Args[1].Args[0] = idOptic()
	}
}
