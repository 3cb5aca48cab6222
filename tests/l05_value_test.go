package tests

import (
	"math"
	"reflect"
	"regexp"
	"slices"
	"strings"
	"testing"

	"loop.example/g00592/impl"
)

// mostValue is the limit as the specification states it.
const mostValue = 300

func intValue(n int) impl.Value { return impl.Value{Kind: 1, N: n} }

func boolValue(n int) impl.Value { return impl.Value{Kind: 2, N: n} }

func recValue(labels string, args ...impl.Value) impl.Value {
	return impl.Value{Kind: 3, Labels: strings.Fields(labels), Args: args}
}

func tagValue(name string, arg impl.Value) impl.Value {
	return impl.Value{Kind: 4, Name: name, Args: []impl.Value{arg}}
}

func listValue(args ...impl.Value) impl.Value { return impl.Value{Kind: 5, Args: args} }

// zeros returns as many integers as asked for.
func zeros(count int) []impl.Value {
	return slices.Repeat([]impl.Value{intValue(0)}, count)
}

// nestValue returns around(around(... v)), nested times.
func nestValue(v impl.Value, times int, around func(impl.Value) impl.Value) impl.Value {
	for range times {
		v = around(v)
	}
	return v
}

func listAround(v impl.Value) impl.Value { return listValue(v) }

func recordAround(v impl.Value) impl.Value { return recValue("a", v) }

func caseAround(v impl.Value) impl.Value { return tagValue("a", v) }

// valueOfSize returns a value of size nodes of several kinds.
func valueOfSize(size int) impl.Value {
	switch {
	case size <= 1:
		return boolValue(1)
	case size%3 == 0:
		return tagValue("p", valueOfSize(size-1))
	case size%3 == 1:
		half := (size - 1) / 2
		return recValue("a b", valueOfSize(half), valueOfSize(size-1-half))
	}
	return listValue(valueOfSize(size - 1))
}

// formlessValues lists nodes that no value has.
func formlessValues() []impl.Value {
	one := zeros(1)
	list := []impl.Value{
		{},
		{N: 1}, {Name: "a"}, {Labels: []string{"a"}, Args: one}, {Args: one},
		{Kind: 1, Name: "a"}, {Kind: 1, N: 5, Name: "a"}, {Kind: 1, Labels: []string{"a"}}, {Kind: 1, Args: one}, {Kind: 1, Labels: []string{"a"}, Args: one}, {Kind: 1, Name: "a", Args: one}, {Kind: 1, Labels: []string{""}}, {Kind: 1, Name: "\x00"},
		{Kind: 2, N: 2}, {Kind: 2, N: -1}, {Kind: 2, N: 3}, {Kind: 2, N: math.MinInt}, {Kind: 2, N: math.MaxInt}, {Kind: 2, N: 1 << 32}, {Kind: 2, N: 1<<32 + 1}, {Kind: 2, N: 256},
		{Kind: 2, Name: "a"}, {Kind: 2, N: 1, Name: "a"}, {Kind: 2, Labels: []string{"a"}}, {Kind: 2, N: 1, Args: one}, {Kind: 2, Labels: []string{"a"}, Args: one},
		{Kind: 3}, {Kind: 3, Labels: []string{}, Args: []impl.Value{}}, {Kind: 3, Args: one}, {Kind: 3, Labels: []string{"a"}}, {Kind: 3, Name: "a", Args: one},
		{Kind: 3, Labels: []string{"a"}, Args: zeros(2)}, {Kind: 3, Labels: []string{"a", "b"}, Args: one}, {Kind: 3, Labels: []string{"a", "b"}, Args: zeros(3)}, {Kind: 3, Labels: []string{"a", "b", "c", "d"}, Args: zeros(3)}, {Kind: 3, Labels: []string{"a", "b", "c", "d"}, Args: zeros(5)},
		{Kind: 3, Labels: []string{"a", "b", "c", "d", "e"}, Args: zeros(5)}, {Kind: 3, Labels: []string{"a", "b", "c", "d", "e"}, Args: zeros(4)}, {Kind: 3, Labels: []string{"a", "b", "c", "d", "e", "f"}, Args: zeros(6)},
		{Kind: 3, N: 1, Labels: []string{"a"}, Args: one}, {Kind: 3, N: -1, Labels: []string{"a"}, Args: one}, {Kind: 3, Name: "a", Labels: []string{"a"}, Args: one}, {Kind: 3, Name: " ", Labels: []string{"a"}, Args: one},
		{Kind: 4}, {Kind: 4, Args: one}, {Kind: 4, Name: "a"}, {Kind: 4, Name: "a", Args: []impl.Value{}}, {Kind: 4, Name: "a", Args: zeros(2)}, {Kind: 4, Name: "a", Args: zeros(3)},
		{Kind: 4, N: 1, Name: "a", Args: one}, {Kind: 4, N: -1, Name: "a", Args: one}, {Kind: 4, Name: "a", Labels: []string{"a"}, Args: one}, {Kind: 4, Labels: []string{"a"}, Args: one}, {Kind: 4, Name: "a", Labels: []string{""}, Args: one},
		{Kind: 5, N: 1}, {Kind: 5, N: -1, Args: one}, {Kind: 5, N: 1, Args: one}, {Kind: 5, Name: "a"}, {Kind: 5, Name: "a", Args: one}, {Kind: 5, Labels: []string{"a"}}, {Kind: 5, Labels: []string{"a"}, Args: one}, {Kind: 5, Labels: []string{"a", "b"}, Args: zeros(2)},
	}
	for _, kind := range []int{-1, -2, -5, 6, 7, 8, 9, 1 + 1<<32, 256 + 5, math.MinInt, math.MaxInt} {
		list = append(list, impl.Value{Kind: kind}, impl.Value{Kind: kind, N: 1}, impl.Value{Kind: kind, Args: one}, impl.Value{Kind: kind, Name: "a", Args: one}, impl.Value{Kind: kind, Labels: []string{"a"}, Args: one})
	}
	for _, labels := range wrongLabels() {
		list = append(list, impl.Value{Kind: 3, Labels: labels, Args: zeros(len(labels))})
	}
	for _, name := range wrongNames() {
		list = append(list, tagValue(name, intValue(0)))
	}
	return list
}

func wrongNames() []string {
	return []string{
		"", "A", "0", "9a", "abcde", "a b", " a", "a ", "a_", "aB", "\x00", "a\x00", "\xff", "a\xff", "\u00e9", "a\u00e9", "a\u0661", "abc\n", strings.Repeat("a", 5000),
	}
}

// someValidValues lists values, all different.
func someValidValues() []impl.Value {
	list := []impl.Value{
		intValue(0), intValue(1), intValue(2), intValue(-1), intValue(math.MinInt), intValue(math.MaxInt), intValue(math.MinInt + 1), intValue(1 << 32), intValue(1000000000000),
		boolValue(0), boolValue(1),
		recValue("a", intValue(0)), recValue("b", intValue(0)), recValue("abcd", intValue(0)), recValue("z999", intValue(0)), recValue("a", intValue(1)), recValue("a", boolValue(0)), recValue("a", boolValue(1)), recValue("a", listValue()),
		tagValue("a", intValue(0)), tagValue("b", intValue(0)), tagValue("abcd", intValue(0)), tagValue("z999", intValue(0)), tagValue("a", intValue(1)), tagValue("a", boolValue(0)), tagValue("b", boolValue(1)), tagValue("a", tagValue("a", intValue(0))),
		listValue(), listValue(intValue(0)), listValue(boolValue(0)), listValue(listValue()), listValue(zeros(2)...), listValue(zeros(5)...), listValue(intValue(1), intValue(2)), listValue(intValue(2), intValue(1)), listValue(boolValue(1), boolValue(0)),
		// A list may have elements of several types, although it then has no type itself.
		listValue(intValue(1), boolValue(1)), listValue(listValue(), intValue(0), recValue("a", intValue(0))),
		recValue("a b", intValue(0), intValue(0)), recValue("a b", intValue(1), intValue(2)), recValue("a b", intValue(2), intValue(1)), recValue("a b", intValue(0), boolValue(0)), recValue("a b", boolValue(0), intValue(0)), recValue("a aa", intValue(0), intValue(0)), recValue("a9 aa", intValue(0), intValue(0)),
		recValue("a b c", intValue(0), intValue(0), intValue(0)), recValue("a b c d", intValue(0), boolValue(0), listValue(), tagValue("p", intValue(0))),
		recValue("p", recValue("q", recValue("r", tagValue("s", listValue(boolValue(1)))))),
		tagValue("p", recValue("a b", intValue(0), listValue(boolValue(0)))), tagValue("q", listValue(tagValue("x", intValue(7)), tagValue("y", boolValue(1)))),
		listValue(recValue("k v", intValue(1), tagValue("no", boolValue(0))), recValue("k v", intValue(2), tagValue("yes", listValue(intValue(3))))),
	}
	for _, size := range []int{30, 31, mostValue - 1, mostValue} {
		list = append(list, valueOfSize(size), listValue(zeros(size-1)...))
	}
	return list
}

// someValues lists values of all sorts: valid ones, formless ones, ones with formless parts and ones that are too large.
func someValues() []impl.Value {
	list := slices.Concat(someValidValues(), formlessValues())
	for _, v := range formlessValues() {
		list = append(list, listValue(v), tagValue("a", v), recValue("a b", intValue(0), v), listValue(v, v))
	}
	for _, size := range []int{mostValue + 1, mostValue + 2, 400, 1000} {
		list = append(list, valueOfSize(size), listValue(zeros(size-1)...))
	}
	return list
}

func isZeroValue(v impl.Value) bool {
	return v.Kind == 0 && v.N == 0 && v.Name == "" && len(v.Labels) == 0 && len(v.Args) == 0
}

// nodesOfValue is the definition of SizeOfValue.
func nodesOfValue(v impl.Value) int {
	count := 1
	for _, arg := range v.Args {
		count += nodesOfValue(arg)
	}
	return count
}

var nameText = regexp.MustCompile(`\A[a-z][a-z0-9]{0,3}\z`)

// isNode is the definition of the five forms.
func isNode(v impl.Value) bool {
	switch v.Kind {
	case 1:
		return v.Name == "" && len(v.Labels) == 0 && len(v.Args) == 0
	case 2:
		return (v.N == 0 || v.N == 1) && v.Name == "" && len(v.Labels) == 0 && len(v.Args) == 0
	case 3:
		return v.N == 0 && v.Name == "" && areLabelTexts(v.Labels) && len(v.Args) == len(v.Labels)
	case 4:
		return v.N == 0 && nameText.MatchString(v.Name) && len(v.Labels) == 0 && len(v.Args) == 1
	case 5:
		return v.N == 0 && v.Name == "" && len(v.Labels) == 0
	}
	return false
}

func areLabelTexts(labels []string) bool {
	for k, label := range labels {
		if !nameText.MatchString(label) || k > 0 && labels[k-1] >= label {
			return false
		}
	}
	return len(labels) >= 1 && len(labels) <= mostLabels
}

func areNodes(v impl.Value) bool {
	for _, arg := range v.Args {
		if !areNodes(arg) {
			return false
		}
	}
	return isNode(v)
}

// isValueOf is the definition of HasType, for nodes with forms and valid types.
func isValueOf(v impl.Value, t impl.Type) bool {
	// The kinds of values have the numbers of those of types.
	if v.Kind != t.Kind || t.Kind == 3 && !reflect.DeepEqual(v.Labels, t.Labels) {
		return false
	}
	for k, arg := range v.Args {
		place := 0
		switch t.Kind {
		case 3:
			place = k
		case 4:
			place = slices.Index(t.Labels, v.Name)
		}
		if place < 0 || !isValueOf(arg, t.Args[place]) {
			return false
		}
	}
	return true
}

// sameValue is the definition of EqualValue.
func sameValue(a impl.Value, b impl.Value) bool {
	if a.Kind != b.Kind || a.N != b.N || a.Name != b.Name || !slices.Equal(a.Labels, b.Labels) || len(a.Args) != len(b.Args) {
		return false
	}
	for k := range a.Args {
		if !sameValue(a.Args[k], b.Args[k]) {
			return false
		}
	}
	return true
}

// withValueReplaced lists, for each node of v, v with node in its place.
func withValueReplaced(v impl.Value, node impl.Value) []impl.Value {
	list := []impl.Value{node}
	for k, arg := range v.Args {
		for _, replaced := range withValueReplaced(arg, node) {
			changed := v
			changed.Args = slices.Clone(v.Args)
			changed.Args[k] = replaced
			list = append(list, changed)
		}
	}
	return list
}

// valuesOfType lists some values of a valid type.
func valuesOfType(t impl.Type) []impl.Value {
	switch t.Kind {
	case 1:
		return []impl.Value{intValue(0), intValue(-3), intValue(math.MinInt), intValue(math.MaxInt)}
	case 2:
		return []impl.Value{boolValue(0), boolValue(1)}
	case 3:
		var list []impl.Value
		for k := range 3 {
			var args []impl.Value
			for _, arg := range t.Args {
				values := valuesOfType(arg)
				args = append(args, values[k%len(values)])
			}
			list = append(list, impl.Value{Kind: 3, Labels: t.Labels, Args: args})
		}
		return list
	case 4:
		var list []impl.Value
		for k, arg := range t.Args {
			for _, part := range valuesOfType(arg) {
				list = append(list, tagValue(t.Labels[k], part))
			}
		}
		return list
	}
	elements := valuesOfType(t.Args[0])
	last := elements[len(elements)-1]
	return []impl.Value{listValue(), listValue(elements[0]), listValue(last, elements[0])}
}

func TestValueConstants(t *testing.T) {
	if impl.MaxValue != mostValue {
		t.Error("limit")
	}
	if impl.VaInt != 1 || impl.VaBool != 2 || impl.VaRec != 3 || impl.VaTag != 4 || impl.VaList != 5 {
		t.Error("kinds")
	}
}

func TestSizeOfValueTable(t *testing.T) {
	cases := []struct {
		v    impl.Value
		size int
	}{
		{impl.Value{}, 1},
		{intValue(7), 1},
		{boolValue(1), 1},
		{listValue(), 1},
		{listValue(intValue(1), intValue(2), intValue(3)), 4},
		{tagValue("a", intValue(5)), 2},
		{recValue("a b", intValue(5), listValue(boolValue(0), boolValue(1))), 5},
		{listValue(listValue(listValue()), tagValue("p", recValue("x", intValue(1)))), 6},
		// The nodes are those of Args, whatever the other fields are.
		{impl.Value{Kind: 1, N: 9, Args: zeros(2)}, 3},
		{impl.Value{Kind: -1, Name: "abc", Args: []impl.Value{listValue(intValue(0))}}, 3},
		{impl.Value{Kind: 3, Labels: []string{"a", "b", "c"}}, 1},
		{impl.Value{Kind: 3, Labels: []string{"a"}, Args: zeros(9)}, 10},
		{impl.Value{Kind: 4, Name: "a", Args: []impl.Value{}}, 1},
		{listValue(zeros(5000)...), 5001},
		{nestValue(intValue(0), 1000, listAround), 1001},
	}
	for _, c := range cases {
		if size := impl.SizeOfValue(c.v); size != c.size {
			t.Errorf("SizeOfValue(%v) is %d, want %d", c.v, size, c.size)
		}
	}
	for _, v := range someValues() {
		size := 1
		for _, arg := range v.Args {
			size += impl.SizeOfValue(arg)
		}
		if got := impl.SizeOfValue(v); got != size || got != nodesOfValue(v) {
			t.Errorf("SizeOfValue(%v) is %d, want %d", v, got, nodesOfValue(v))
		}
	}
}

func TestIsValueTable(t *testing.T) {
	for _, v := range someValidValues() {
		if !impl.IsValue(v) {
			t.Errorf("IsValue(%v) is false", v)
		}
	}
	for _, v := range formlessValues() {
		if impl.IsValue(v) {
			t.Errorf("IsValue(%v) is true", v)
		}
	}
	empty := impl.Value{Kind: 1, Labels: []string{}, Args: []impl.Value{}}
	emptyTag := impl.Value{Kind: 4, Name: "a", Labels: []string{}, Args: []impl.Value{empty}}
	emptyList := impl.Value{Kind: 5, Labels: []string{}, Args: []impl.Value{}}
	if !impl.IsValue(empty) || !impl.IsValue(emptyTag) || !impl.IsValue(emptyList) {
		t.Error("empty slices are not as nil ones")
	}
}

func TestIsValueNeedsAllNodes(t *testing.T) {
	hosts := []impl.Value{
		listValue(intValue(0)), recValue("a", intValue(0)), tagValue("a", intValue(0)), listValue(zeros(3)...),
		recValue("a b c d", intValue(0), tagValue("q", listValue(boolValue(0))), boolValue(1), listValue(recValue("x", intValue(0)), listValue())),
		nestValue(intValue(0), 12, listAround),
	}
	for _, host := range hosts {
		if !impl.IsValue(host) {
			t.Errorf("IsValue(%v) is false", host)
		}
		for _, node := range formlessValues() {
			for _, v := range withValueReplaced(host, node) {
				if impl.IsValue(v) {
					t.Errorf("IsValue(%v) is true", v)
				}
			}
		}
		for _, node := range []impl.Value{boolValue(1), intValue(math.MinInt), listValue(), tagValue("p", intValue(0))} {
			for _, v := range withValueReplaced(host, node) {
				if !impl.IsValue(v) {
					t.Errorf("IsValue(%v) is false", v)
				}
			}
		}
	}
}

func TestIsValueAtMostSize(t *testing.T) {
	for size := 1; size <= 2*mostValue; size++ {
		part := max(size-2, 0)
		list := []impl.Value{
			valueOfSize(size), listValue(zeros(size - 1)...),
			nestValue(intValue(0), size-1, listAround), nestValue(boolValue(0), size-1, recordAround), nestValue(listValue(), size-1, caseAround),
			recValue("a b", valueOfSize(part-part/2), valueOfSize(part/2)), listValue(valueOfSize(part/3), listValue(zeros(part-part/3)...)),
			listValue(nestValue(intValue(0), part, caseAround)), listValue(intValue(0), valueOfSize(part)), listValue(valueOfSize(part), intValue(0)),
		}
		for k, v := range list {
			nodes := nodesOfValue(v)
			if k < 5 && nodes != size {
				t.Fatalf("%v has %d nodes", v, nodes)
			}
			if got, want := impl.IsValue(v), nodes <= mostValue; got != want {
				t.Errorf("IsValue of value %d with %d nodes is %v", k, nodes, got)
			}
		}
	}
	// The last node that is looked at has no form.
	for _, size := range []int{mostValue - 1, mostValue, mostValue + 1} {
		args := zeros(size - 1)
		args[size-2] = boolValue(2)
		if impl.IsValue(listValue(args...)) || impl.IsValue(nestValue(boolValue(2), size-1, listAround)) {
			t.Errorf("IsValue with %d nodes, of which the last one has no form, is true", size)
		}
	}
}

// TestIsValueOfEveryNode compares the results with the words of the specification, for nodes of all sorts.
func TestIsValueOfEveryNode(t *testing.T) {
	numbers := []int{0, 1, 2, -1, math.MinInt, math.MaxInt}
	found := [6]int{}
	check := func(labels []string) {
		for kind := -1; kind <= 7; kind++ {
			for count := range 7 {
				for _, n := range numbers {
					for _, name := range []string{"", "a", "z9", "B", "abcde"} {
						v := impl.Value{Kind: kind, N: n, Name: name, Labels: labels, Args: zeros(count)}
						want := isNode(v)
						if impl.IsValue(v) != want {
							t.Fatalf("IsValue(%v) is %v", v, !want)
						}
						if want {
							found[kind]++
						}
					}
				}
			}
		}
	}
	listsOver([]string{"a", "b", "c1", "B", ""}, 3, check)
	check([]string{"a", "b", "c", "d"})
	check([]string{"a", "b", "c", "d", "e"})
	check([]string{"a", "b", "d", "c"})
	if found != [6]int{0, 6, 2, 8, 2, 7} {
		t.Errorf("%v values of the kinds", found)
	}
}

func TestHasTypeTable(t *testing.T) {
	i, b := intType(), boolType()
	sum := sumType("p q", i, b)
	record := recType("a b", i, listType(b))
	cases := []struct {
		v    impl.Value
		t    impl.Type
		want bool
	}{
		{intValue(5), i, true}, {intValue(math.MinInt), i, true}, {intValue(1), b, false}, {intValue(0), listType(i), false}, {intValue(0), recType("a", i), false}, {intValue(0), sumType("a", i), false},
		{boolValue(0), b, true}, {boolValue(1), b, true}, {boolValue(1), i, false}, {boolValue(2), b, false}, {boolValue(-1), b, false}, {boolValue(0), listType(b), false},
		{listValue(), listType(i), true}, {listValue(), listType(record), true}, {listValue(), i, false}, {listValue(), b, false}, {listValue(), recType("a", i), false}, {listValue(), sumType("a", i), false},
		{listValue(intValue(1), intValue(2)), listType(i), true}, {listValue(intValue(1)), listType(b), false}, {listValue(intValue(1), boolValue(1)), listType(i), false}, {listValue(boolValue(1), intValue(1)), listType(i), false}, {listValue(listValue()), listType(i), false}, {listValue(listValue()), listType(listType(i)), true}, {listValue(listValue(), listValue(boolValue(1))), listType(listType(i)), false},
		{tagValue("p", intValue(5)), sum, true}, {tagValue("q", boolValue(1)), sum, true}, {tagValue("p", boolValue(1)), sum, false}, {tagValue("q", intValue(5)), sum, false}, {tagValue("r", intValue(5)), sum, false}, {tagValue("a", intValue(5)), sum, false}, {tagValue("pq", intValue(5)), sum, false}, {tagValue("", intValue(5)), sum, false}, {tagValue("p", intValue(5)), recType("p q", i, b), false}, {tagValue("p", intValue(5)), i, false}, {tagValue("p", intValue(5)), listType(i), false},
		{tagValue("p", intValue(5)), sumType("p", i), true}, {tagValue("p", tagValue("q", boolValue(0))), sumType("p", sum), true}, {tagValue("p", tagValue("r", boolValue(0))), sumType("p", sum), false},
		{recValue("a b", intValue(1), listValue()), record, true}, {recValue("a b", intValue(1), listValue(boolValue(0))), record, true}, {recValue("a b", intValue(1), listValue(intValue(0))), record, false}, {recValue("a b", boolValue(1), listValue()), record, false}, {recValue("a b", listValue(), intValue(1)), record, false},
		{recValue("a c", intValue(1), listValue()), record, false}, {recValue("b c", intValue(1), listValue()), record, false}, {recValue("a", intValue(1)), record, false}, {recValue("b", listValue()), record, false}, {recValue("a b c", intValue(1), listValue(), intValue(0)), record, false}, {recValue("b a", listValue(), intValue(1)), record, false}, {recValue("a bb", intValue(1), listValue()), record, false},
		{recValue("a b", intValue(1), listValue()), sumType("a b", i, listType(b)), false}, {recValue("a b", intValue(1), listValue()), listType(i), false}, {recValue("a", intValue(1)), recType("b", i), false}, {recValue("a", intValue(1)), recType("a", b), false}, {recValue("a", intValue(1)), i, false},
		{impl.Value{}, i, false}, {impl.Value{}, b, false}, {impl.Value{}, listType(i), false}, {impl.Value{}, impl.Type{}, false}, {intValue(0), impl.Type{}, false}, {impl.Value{Kind: 6}, impl.Type{Kind: 6}, false},
	}
	for _, c := range cases {
		if got := impl.HasType(c.v, c.t); got != c.want {
			t.Errorf("HasType(%v, %v) is %v", c.v, c.t, got)
		}
	}
	empty := impl.Value{Kind: 1, Labels: []string{}, Args: []impl.Value{}}
	if !impl.HasType(empty, i) || !impl.HasType(intValue(0), impl.Type{Kind: 1, Labels: []string{}, Args: []impl.Type{}}) || !impl.HasType(impl.Value{Kind: 5, Args: []impl.Value{}}, listType(i)) {
		t.Error("empty slices are not as nil ones")
	}
}

// TestHasTypeOfAllPairs compares the results with the words of the specification.
func TestHasTypeOfAllPairs(t *testing.T) {
	types := validTypes()
	values := slices.Clone(someValidValues())
	for _, x := range types {
		for _, v := range valuesOfType(x) {
			if !impl.IsValue(v) || !impl.HasType(v, x) {
				t.Errorf("HasType(%v, %v) is false", v, x)
			}
			values = append(values, v)
		}
	}
	for _, x := range types {
		for _, v := range values {
			if got, want := impl.HasType(v, x), isValueOf(v, x); got != want {
				t.Errorf("HasType(%v, %v) is %v", v, x, got)
			}
		}
	}
	for _, x := range someTypes() {
		for _, v := range someValues() {
			if impl.HasType(v, x) && (!impl.IsValue(v) || !impl.IsValidType(x)) {
				t.Errorf("HasType(%v, %v) is true", v, x)
			}
		}
	}
}

func TestHasTypeNeedsAllNodes(t *testing.T) {
	i, b := intType(), boolType()
	host := recType("a b c", sumType("p q", listType(b), i), b, listType(recType("x", i)))
	value := recValue("a b c", tagValue("p", listValue(boolValue(0), boolValue(1))), boolValue(1), listValue(recValue("x", intValue(1)), recValue("x", intValue(2))))
	if !impl.HasType(value, host) {
		t.Fatal("not a value of its type")
	}
	for _, node := range formlessValues() {
		for _, v := range withValueReplaced(value, node) {
			if impl.HasType(v, host) {
				t.Errorf("HasType(%v) is true", v)
			}
		}
	}
	for _, node := range someValidValues() {
		for _, v := range withValueReplaced(value, node) {
			if got, want := impl.HasType(v, host), impl.IsValue(v) && isValueOf(v, host); got != want {
				t.Errorf("HasType(%v) is %v", v, got)
			}
		}
	}
	// Each field that a kind does not mention.
	for _, x := range []impl.Type{i, b, recType("a", i), sumType("a", i), listType(i)} {
		for _, v := range valuesOfType(x) {
			for _, changed := range oddlyChanged(v) {
				if impl.HasType(changed, x) || impl.IsValue(changed) {
					t.Errorf("HasType(%v, %v) or IsValue is true", changed, x)
				}
			}
		}
	}
}

// oddlyChanged lists what v becomes by additions that no kind of value permits.
func oddlyChanged(v impl.Value) []impl.Value {
	var list []impl.Value
	add := func(change func(*impl.Value)) {
		changed := v
		change(&changed)
		list = append(list, changed)
	}
	if v.Kind != 1 {
		add(func(v *impl.Value) { v.N = 2 })
		add(func(v *impl.Value) { v.N = -1 })
	}
	if v.Kind != 4 {
		add(func(v *impl.Value) { v.Name = "a" })
	}
	add(func(v *impl.Value) { v.Name = "A" })
	add(func(v *impl.Value) { v.Labels = []string{"a", "b"} })
	if v.Kind != 3 {
		add(func(v *impl.Value) { v.Labels = []string{"a"} })
	}
	if v.Kind != 5 {
		add(func(v *impl.Value) { v.Args = append(slices.Clone(v.Args), intValue(0)) })
	}
	return list
}

func TestHasTypeOfInvalidTypes(t *testing.T) {
	i := intType()
	for _, x := range formlessTypes() {
		for _, v := range someValidValues() {
			if impl.HasType(v, x) {
				t.Errorf("HasType(%v, %v) is true", v, x)
			}
		}
		// The value does not reach the part that is not valid.
		if impl.HasType(listValue(), listType(x)) || impl.HasType(tagValue("p", intValue(0)), sumType("p q", i, x)) || impl.HasType(recValue("a", listValue()), recType("a", listType(x))) {
			t.Errorf("a value has a type with the part %v", x)
		}
	}
	for size := mostTypeSize - 1; size <= mostTypeSize+2; size++ {
		x := sumType("p q", i, typeOfSize(size-2))
		if got, want := impl.HasType(tagValue("p", intValue(0)), x), size <= mostTypeSize; got != want {
			t.Errorf("HasType with a type of %d nodes is %v", size, got)
		}
	}
	for depth := mostTypeDepth - 1; depth <= mostTypeDepth+2; depth++ {
		x := nest(i, depth-1, listType)
		v := nestValue(intValue(0), depth-1, listAround)
		want := depth <= mostTypeDepth
		if impl.HasType(v, x) != want || impl.HasType(listValue(), x) != want {
			t.Errorf("HasType with a type of depth %d is not %v", depth, want)
		}
	}
}

func TestHasTypeAtMostSize(t *testing.T) {
	pair := recType("a b", intType(), listType(boolType()))
	for size := mostValue - 20; size <= mostValue+20; size++ {
		want := size <= mostValue
		if impl.HasType(listValue(zeros(size-1)...), listType(intType())) != want {
			t.Errorf("HasType of a list with %d nodes is not %v", size, want)
		}
		truths := slices.Repeat([]impl.Value{boolValue(1)}, size-4)
		v := listValue(recValue("a b", intValue(1), listValue(truths...)))
		if nodesOfValue(v) != size || impl.HasType(v, listType(pair)) != want {
			t.Errorf("HasType of a list of records with %d nodes is not %v", nodesOfValue(v), want)
		}
	}
}

func TestEqualValueOfAllPairs(t *testing.T) {
	list := someValues()
	for _, a := range list {
		for _, b := range list {
			want := sameValue(a, b)
			if got := impl.EqualValue(a, b); got != want {
				t.Errorf("EqualValue(%v, %v) is %v", a, b, got)
			}
		}
	}
	valid := someValidValues()
	for j, a := range valid {
		for k, b := range valid {
			if got := impl.EqualValue(a, b); got != (j == k) {
				t.Errorf("EqualValue(%v, %v) is %v", a, b, got)
			}
		}
	}
}

// TestEqualValueOfOneChange has nodes that differ in one field each, by themselves and within others.
func TestEqualValueOfOneChange(t *testing.T) {
	node := func() impl.Value {
		return impl.Value{Kind: 3, N: 4, Name: "na", Labels: []string{"a", "b"}, Args: []impl.Value{intValue(1), boolValue(0)}}
	}
	changes := []func(*impl.Value){
		func(v *impl.Value) { v.Kind = 4 },
		func(v *impl.Value) { v.Kind = 0 },
		func(v *impl.Value) { v.Kind = -3 },
		func(v *impl.Value) { v.N = 5 },
		func(v *impl.Value) { v.N = -4 },
		func(v *impl.Value) { v.N = 4 + 1<<32 },
		func(v *impl.Value) { v.Name = "nb" },
		func(v *impl.Value) { v.Name = "" },
		func(v *impl.Value) { v.Name = "n" },
		func(v *impl.Value) { v.Name = "na\x00" },
		func(v *impl.Value) { v.Labels = nil },
		func(v *impl.Value) { v.Labels = []string{"a"} },
		func(v *impl.Value) { v.Labels = []string{"b", "a"} },
		func(v *impl.Value) { v.Labels = []string{"a", "c"} },
		func(v *impl.Value) { v.Labels = []string{"c", "b"} },
		func(v *impl.Value) { v.Labels = []string{"a", "b", "c"} },
		func(v *impl.Value) { v.Labels = []string{"ab", ""} },
		func(v *impl.Value) { v.Args = nil },
		func(v *impl.Value) { v.Args = v.Args[:1] },
		func(v *impl.Value) { v.Args = []impl.Value{boolValue(0), intValue(1)} },
		func(v *impl.Value) { v.Args = append(v.Args, intValue(0)) },
		func(v *impl.Value) { v.Args[0].N = 2 },
		func(v *impl.Value) { v.Args[0].Kind = 2 },
		func(v *impl.Value) { v.Args[1].Name = "a" },
		func(v *impl.Value) { v.Args[1].Labels = []string{"a"} },
		func(v *impl.Value) { v.Args[1].Args = zeros(1) },
	}
	arounds := []func(impl.Value) impl.Value{
		func(v impl.Value) impl.Value { return v },
		listAround, recordAround, caseAround,
		func(v impl.Value) impl.Value {
			return listValue(intValue(0), recValue("a b", v, listValue()), boolValue(0))
		},
		func(v impl.Value) impl.Value { return recValue("a b", tagValue("p", intValue(1)), listValue(v)) },
	}
	for j, around := range arounds {
		if !impl.EqualValue(around(node()), around(node())) {
			t.Error("equal values are not")
		}
		for k, change := range changes {
			changed := node()
			change(&changed)
			if impl.EqualValue(around(node()), around(changed)) || impl.EqualValue(around(changed), around(node())) {
				t.Errorf("EqualValue is true after change %d within %d", k, j)
			}
		}
	}
	empty := impl.Value{Kind: 5, Labels: []string{}, Args: []impl.Value{}}
	if !impl.EqualValue(empty, listValue()) || !impl.EqualValue(listValue(listValue()), listValue(empty)) || !impl.EqualValue(impl.Value{}, impl.Value{}) {
		t.Error("empty slices are not as nil ones")
	}
}

func TestDefaultOfTable(t *testing.T) {
	i, b := intType(), boolType()
	cases := []struct {
		t    impl.Type
		want impl.Value
	}{
		{i, intValue(0)},
		{b, boolValue(0)},
		{listType(i), listValue()},
		{listType(recType("a", b)), listValue()},
		{recType("a", i), recValue("a", intValue(0))},
		{recType("a b c d", i, b, listType(b), sumType("x", b)), recValue("a b c d", intValue(0), boolValue(0), listValue(), tagValue("x", boolValue(0)))},
		{sumType("p q", i, b), tagValue("p", intValue(0))},
		{sumType("p q", b, i), tagValue("p", boolValue(0))},
		{sumType("z", listType(i)), tagValue("z", listValue())},
		{sumType("p q", sumType("x y", recType("k v", b, i), i), b), tagValue("p", tagValue("x", recValue("k v", boolValue(0), intValue(0))))},
		{recType("a b", recType("c", recType("d", i)), recType("c", b)), recValue("a b", recValue("c", recValue("d", intValue(0))), recValue("c", boolValue(0)))},
		{nest(i, mostTypeDepth-1, listType), listValue()},
		{impl.Type{Kind: 1, Labels: []string{}, Args: []impl.Type{}}, intValue(0)},
	}
	for _, c := range cases {
		if got := impl.DefaultOf(c.t); !sameValue(got, c.want) {
			t.Errorf("DefaultOf(%v) is %v, want %v", c.t, got, c.want)
		}
	}
}

// defaultOf is the definition, for valid types.
func defaultOf(t impl.Type) impl.Value {
	v := impl.Value{Kind: t.Kind}
	switch t.Kind {
	case 3:
		v.Labels = t.Labels
		for _, arg := range t.Args {
			v.Args = append(v.Args, defaultOf(arg))
		}
	case 4:
		v.Name, v.Args = t.Labels[0], []impl.Value{defaultOf(t.Args[0])}
	}
	return v
}

// TestDefaultsHaveTheirTypes is promise 5.
func TestDefaultsHaveTheirTypes(t *testing.T) {
	for _, x := range someTypes() {
		v := impl.DefaultOf(x)
		if !impl.IsValidType(x) {
			if !isZeroValue(v) || impl.HasType(v, x) {
				t.Errorf("DefaultOf(%v) is %v", x, v)
			}
			continue
		}
		if !impl.HasType(v, x) || !impl.IsValue(v) || !isValueOf(v, x) || !areNodes(v) {
			t.Errorf("DefaultOf(%v) is %v, which does not have the type", x, v)
		}
		if !sameValue(v, defaultOf(x)) || !impl.EqualValue(v, defaultOf(x)) || impl.SizeOfValue(v) > impl.SizeOfType(x) {
			t.Errorf("DefaultOf(%v) is %v", x, v)
		}
	}
}

func TestDefaultOfInvalidTypes(t *testing.T) {
	i := intType()
	hosts := []impl.Type{listType(i), recType("a b", i, listType(i)), sumType("a b", i, listType(i))}
	for _, host := range hosts {
		for _, node := range formlessTypes() {
			for _, x := range withNodeReplaced(host, node) {
				if v := impl.DefaultOf(x); !isZeroValue(v) {
					t.Errorf("DefaultOf(%v) is %v", x, v)
				}
			}
		}
	}
	for size := mostTypeSize - 1; size <= mostTypeSize+3; size++ {
		if v := impl.DefaultOf(typeOfSize(size)); isZeroValue(v) != (size > mostTypeSize) {
			t.Errorf("DefaultOf a type of %d nodes is %v", size, v)
		}
	}
	for depth := mostTypeDepth - 1; depth <= mostTypeDepth+2; depth++ {
		if v := impl.DefaultOf(nest(i, depth-1, listType)); isZeroValue(v) != (depth > mostTypeDepth) {
			t.Errorf("DefaultOf a type of depth %d is %v", depth, v)
		}
	}
}

// checkHuge checks the functions for a value that is far from valid, for a type that it would fit otherwise.
func checkHuge(t *testing.T, v impl.Value, x impl.Type) {
	t.Helper()
	if impl.IsValue(v) || impl.HasType(v, x) || impl.HasType(listValue(intValue(0), v), listType(x)) {
		t.Error("IsValue or HasType of a huge value is true")
	}
	if !impl.EqualValue(v, v) || impl.EqualValue(v, intValue(0)) || impl.EqualValue(v, listValue(v)) || impl.EqualValue(recValue("a", v), listValue(v)) {
		t.Error("EqualValue of a huge value")
	}
}

// TestDeepValues and the next three are about values that are far from valid, but have results too.
func TestDeepValues(t *testing.T) {
	const depth = 200000
	for _, around := range []func(impl.Value) impl.Value{listAround, recordAround, caseAround} {
		deep, copied, other := nestValue(intValue(0), depth, around), nestValue(intValue(0), depth, around), nestValue(intValue(1), depth, around)
		if impl.SizeOfValue(deep) != depth+1 {
			t.Error("SizeOfValue")
		}
		if !impl.EqualValue(deep, copied) || impl.EqualValue(deep, other) {
			t.Error("EqualValue")
		}
		checkHuge(t, deep, nest(intType(), mostTypeDepth-1, listType))
	}
	endless := make([]impl.Type, 1)
	endless[0] = impl.Type{Kind: 5, Args: endless}
	if v := impl.DefaultOf(endless[0]); !isZeroValue(v) || impl.HasType(listValue(), endless[0]) || impl.HasType(nestValue(listValue(), 20, listAround), endless[0]) {
		t.Error("a value of a type without end")
	}
	if v := impl.DefaultOf(nest(intType(), depth, listType)); !isZeroValue(v) {
		t.Error("DefaultOf a deep type")
	}
}

func TestWideValues(t *testing.T) {
	const width = 100000
	wide, other := listValue(zeros(width)...), listValue(zeros(width)...)
	if impl.SizeOfValue(wide) != width+1 || !impl.EqualValue(wide, other) {
		t.Error("SizeOfValue or EqualValue")
	}
	other.Args[width-1].N = 1
	if impl.EqualValue(wide, other) {
		t.Error("EqualValue")
	}
	checkHuge(t, wide, listType(intType()))
	names := slices.Repeat([]string{"a"}, width)
	for kind := range 7 {
		checkHuge(t, impl.Value{Kind: kind, Labels: names, Args: wide.Args}, listType(intType()))
		checkHuge(t, impl.Value{Kind: kind, Name: strings.Repeat("a", width), N: 1}, sumType("a", intType()))
	}
}

// TestSharedValues has values with many more nodes than memory holds, as parts of them are the same slices.
func TestSharedValues(t *testing.T) {
	double := func(v impl.Value) impl.Value { return recValue("a b", v, v) }
	for times := range 62 {
		v := nestValue(intValue(0), times, double)
		if size := impl.SizeOfValue(v); size != 1<<(times+1)-1 {
			t.Errorf("doubled %d times the size is %d", times, size)
		}
		if got, want := impl.IsValue(v), 1<<(times+1)-1 <= mostValue; got != want {
			t.Errorf("doubled %d times IsValue is %v", times, got)
		}
	}
	v, w, other := nestValue(intValue(0), 60, double), nestValue(intValue(0), 60, double), nestValue(intValue(1), 60, double)
	if !impl.EqualValue(v, w) || impl.EqualValue(v, other) || impl.EqualValue(v, double(v)) {
		t.Error("EqualValue")
	}
	checkHuge(t, v, nest(intType(), 4, func(t impl.Type) impl.Type { return recType("a b", t, intType()) }))
	if size := impl.SizeOfValue(nestValue(intValue(0), 100, double)); size != math.MaxInt {
		t.Errorf("the size is %d where an int cannot hold it", size)
	}
	// The same array is one slice of parts here and a longer one there.
	both := []impl.Value{listValue(intValue(1)), boolValue(0)}
	v = listValue(listValue(both[:1]...), listValue(both...), listValue(both[1:]...))
	if impl.SizeOfValue(v) != 10 || !impl.IsValue(v) || impl.EqualValue(v.Args[0], v.Args[1]) || impl.EqualValue(v.Args[0], v.Args[2]) {
		t.Error("slices of the same array")
	}
}

func TestEndlessValues(t *testing.T) {
	endless := func(kind int, length int) impl.Value {
		ring := make([]impl.Value, length)
		for k := range ring {
			next := (k + 1) % length
			ring[k] = impl.Value{Kind: kind, Args: ring[next : next+1]}
			if kind == 3 {
				ring[k].Labels = []string{"a"}
			}
			if kind == 4 {
				ring[k].Name = "a"
			}
		}
		return ring[0]
	}
	for kind := range 7 {
		v := endless(kind, 1)
		inside := recValue("a b", intValue(0), v)
		if impl.SizeOfValue(v) != math.MaxInt || impl.SizeOfValue(inside) != math.MaxInt || impl.SizeOfValue(endless(kind, 7)) != math.MaxInt {
			t.Error("SizeOfValue")
		}
		if !impl.EqualValue(v, endless(kind, 1)) || !impl.EqualValue(endless(kind, 3), endless(kind, 5)) || impl.EqualValue(v, endless(kind+1, 2)) || impl.EqualValue(v, inside) || impl.EqualValue(v, intValue(0)) {
			t.Error("EqualValue")
		}
		for _, x := range []impl.Type{intType(), listType(intType()), recType("a", intType()), sumType("a", sumType("a", intType()))} {
			if impl.HasType(v, x) || impl.HasType(inside, recType("a b", intType(), x)) {
				t.Error("HasType of an endless value is true")
			}
		}
		if impl.IsValue(v) || impl.IsValue(inside) || impl.IsValue(endless(kind, 500)) {
			t.Error("an endless value is one")
		}
	}
}

// sparedValue returns a value with unused capacity in all of its slices, where there is something else.
func sparedValue(depth int) impl.Value {
	if depth == 0 {
		spared := []impl.Value{intValue(1), boolValue(1)}
		return impl.Value{Kind: 1, Labels: []string{"k", "v"}[:0], Args: spared[:0]}
	}
	args := []impl.Value{sparedValue(depth - 1), sparedValue(depth - 1), {Kind: 19}, {Kind: 20}}
	return impl.Value{Kind: 3, Labels: []string{"a", "b", "x", "y"}[:2], Args: args[:2]}
}

// wholeOfValue shows the unused capacity too.
func wholeOfValue(v impl.Value) impl.Value {
	whole := v
	whole.Labels, whole.Args = slices.Clone(v.Labels[:cap(v.Labels)]), nil
	for _, arg := range v.Args[:cap(v.Args)] {
		whole.Args = append(whole.Args, wholeOfValue(arg))
	}
	return whole
}

func TestValuesKeepTheirArguments(t *testing.T) {
	for depth := range 4 {
		for kind := range 7 {
			v, w, x := sparedValue(depth), sparedValue(depth), sparedType(depth)
			v.Kind, x.Kind = kind, kind
			before, beforeType := wholeOfValue(v), wholeOf(x)
			impl.SizeOfValue(v)
			impl.IsValue(v)
			impl.HasType(v, x)
			impl.HasType(w, x)
			impl.EqualValue(v, w)
			impl.EqualValue(w, v)
			impl.EqualValue(v, v)
			impl.DefaultOf(x)
			if !reflect.DeepEqual(wholeOfValue(v), before) || !reflect.DeepEqual(wholeOf(x), beforeType) {
				t.Errorf("%v became %v, or %v %v", before, wholeOfValue(v), beforeType, wholeOf(x))
			}
		}
	}
	// What is behind the length is not part of the value.
	v := sparedValue(2)
	if !impl.IsValue(v) || !impl.HasType(v, sparedType(2)) || impl.SizeOfValue(v) != 7 {
		t.Error("a value with unused capacity")
	}
	w := sparedValue(2)
	w.Args[:3][2], w.Labels[:3][2] = listValue(), "zz"
	if !impl.EqualValue(v, w) {
		t.Error("EqualValue of values with other unused capacity is false")
	}
}

// overwriteValue writes into everything that a value has, up to the capacity.
func overwriteValue(v impl.Value) {
	for _, arg := range v.Args {
		overwriteValue(arg)
	}
	for k := range v.Args[:cap(v.Args)] {
		v.Args[:cap(v.Args)][k] = impl.Value{Kind: 99}
	}
	for k := range v.Labels[:cap(v.Labels)] {
		v.Labels[:cap(v.Labels)][k] = "zz"
	}
}

func TestDefaultsAreNew(t *testing.T) {
	x := recType("p q", sparedType(3), sumType("a b", sparedType(1), intType()))
	before := wholeOf(x)
	first, second := impl.DefaultOf(x), impl.DefaultOf(x)
	overwriteValue(first)
	if !reflect.DeepEqual(wholeOf(x), before) || !sameValue(second, defaultOf(x)) || !sameValue(impl.DefaultOf(x), defaultOf(x)) {
		t.Error("the result shares memory with the argument or with another result")
	}
	overwrite(x)
	if !sameValue(second, impl.DefaultOf(recType("p q", sparedType(3), sumType("a b", sparedType(1), intType())))) {
		t.Error("the result changed with the argument")
	}
	// The argument has the same slices in two places, the result must not.
	pair := recType("a b", intType(), boolType())
	pairs := recType("k v", pair, pair)
	shared := impl.DefaultOf(recType("k v", pairs, pairs))
	want := recValue("k v", recValue("a b", intValue(0), boolValue(0)), recValue("a b", intValue(0), boolValue(0)))
	overwriteValue(shared.Args[0])
	if !sameValue(shared.Args[1], want) || !slices.Equal(shared.Labels, []string{"k", "v"}) {
		t.Error("two slices of the result share memory")
	}
}

func TestDefaultsShareNoStrings(t *testing.T) {
	whole := strings.Repeat("abcd", 2)
	a, b := whole[:2], whole[1:3]
	x := impl.Type{Kind: 3, Labels: []string{a, b}, Args: []impl.Type{{Kind: 4, Labels: []string{a, b}, Args: ints(2)}, intType()}}
	v := impl.DefaultOf(x)
	if len(v.Labels) != 2 || len(v.Args) != 2 || v.Args[0].Name != a {
		t.Fatal(v)
	}
	for _, s := range []string{v.Labels[0], v.Labels[1], v.Args[0].Name} {
		if shareMemory(whole, s) {
			t.Errorf("%q is in the memory of the argument", s)
		}
	}
}
