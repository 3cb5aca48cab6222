package tests

import (
	"reflect"
	"regexp"
	"slices"
	"strings"
	"testing"

	"loop.example/g00592/impl"
)

// typeText is the definition; it has a text for types with invalid labels too, and for those that are too large or deep.
func typeText(t impl.Type) string {
	var parts []string
	for k, arg := range t.Args {
		if k < len(t.Labels) {
			parts = append(parts, t.Labels[k]+":"+typeText(arg))
		} else {
			parts = append(parts, typeText(arg))
		}
	}
	inside := strings.Join(parts, ",")
	switch t.Kind {
	case 1:
		return "I"
	case 2:
		return "B"
	case 3:
		return "{" + inside + "}"
	case 4:
		return "<" + inside + ">"
	case 5:
		return "[" + inside + "]"
	}
	return "?"
}

var (
	innermost = regexp.MustCompile(`\[T\]|\{[^{}<>\[\]]*\}|<[^{}<>\[\]]*>`)
	labelled  = regexp.MustCompile(`\A[{<]([a-z][a-z0-9]{0,3}:T(,[a-z][a-z0-9]{0,3}:T){0,3})[}>]\z`)
)

// isTypeText finds out without a parser whether s is the representation of a valid type: innermost types become T.
func isTypeText(s string) bool {
	if strings.Contains(s, "T") || countOf(s, "IB{<[") > mostTypeSize || bracketDepth(s)+1 > mostTypeDepth {
		return false
	}
	s = strings.NewReplacer("I", "T", "B", "T").Replace(s)
	for {
		reduced := innermost.ReplaceAllStringFunc(s, func(part string) string {
			if part[0] == '[' || hasTypeLabels(part) {
				return "T"
			}
			return part
		})
		if reduced == s {
			return s == "T"
		}
		s = reduced
	}
}

// hasTypeLabels is for a text between brackets within which all types have become T.
func hasTypeLabels(part string) bool {
	found := labelled.FindStringSubmatch(part)
	if found == nil {
		return false
	}
	labels := strings.Split(strings.ReplaceAll(found[1], ":T", ""), ",")
	return slices.IsSorted(labels) && len(slices.Compact(slices.Clone(labels))) == len(labels)
}

func countOf(s string, chars string) int {
	count := 0
	for _, char := range chars {
		count += strings.Count(s, string(char))
	}
	return count
}

func bracketDepth(s string) int {
	open, most := 0, 0
	for k := range len(s) {
		if strings.IndexByte("{<[", s[k]) >= 0 {
			open++
			most = max(most, open)
		}
		if strings.IndexByte("}>]", s[k]) >= 0 {
			open--
		}
	}
	return most
}

// checkTypeText checks ParseType of s, which is a representation or is not.
func checkTypeText(t *testing.T, s string, want bool) {
	t.Helper()
	x, ok := impl.ParseType(s)
	if ok != want {
		t.Fatalf("ParseType(%.200q) is %v, %v", s, x, ok)
	}
	if !ok && !isZeroType(x) {
		t.Errorf("ParseType(%.200q) is false with %v", s, x)
	}
	if ok && (!impl.IsValidType(x) || typeText(x) != s || impl.FormatType(x) != s) {
		t.Errorf("ParseType(%q) is %v, which is %q", s, x, impl.FormatType(x))
	}
}

func TestTypeTextTable(t *testing.T) {
	i, b := intType(), boolType()
	cases := []struct {
		t    impl.Type
		text string
	}{
		{i, "I"},
		{b, "B"},
		{listType(i), "[I]"},
		{listType(listType(b)), "[[B]]"},
		{recType("a", i), "{a:I}"},
		{sumType("a", i), "<a:I>"},
		{recType("a b", i, listType(b)), "{a:I,b:[B]}"},
		{recType("b", b), "{b:B}"},
		{recType("abcd", b), "{abcd:B}"},
		{recType("a a0 a9 aa", i, b, b, i), "{a:I,a0:B,a9:B,aa:I}"},
		{sumType("p q", i, recType("x", b)), "<p:I,q:{x:B}>"},
		{sumType("a b c d", i, b, i, b), "<a:I,b:B,c:I,d:B>"},
		{recType("i", recType("b", sumType("i", listType(i)))), "{i:{b:<i:[I]>}}"},
		{listType(recType("k v", i, sumType("no yes", b, listType(i)))), "[{k:I,v:<no:B,yes:[I]>}]"},
		{impl.Type{Kind: 1, Labels: []string{}, Args: []impl.Type{}}, "I"},
	}
	for _, c := range cases {
		if text := impl.FormatType(c.t); text != c.text {
			t.Errorf("FormatType(%v) is %q, want %q", c.t, text, c.text)
		}
		if x, ok := impl.ParseType(c.text); !ok || !sameType(x, c.t) {
			t.Errorf("ParseType(%q) is %v, %v, want %v", c.text, x, ok, c.t)
		}
	}
}

// TestTypesAreParsedFromTheirText is promise 4.
func TestTypesAreParsedFromTheirText(t *testing.T) {
	texts := map[string]bool{}
	for _, x := range someTypes() {
		text := impl.FormatType(x)
		if !impl.IsValidType(x) {
			if text != "" {
				t.Errorf("FormatType(%v) is %q", x, text)
			}
			continue
		}
		if text != typeText(x) || texts[text] {
			t.Errorf("FormatType(%v) is %q", x, text)
		}
		texts[text] = true
		if parsed, ok := impl.ParseType(text); !ok || !sameType(parsed, x) || !impl.EqualType(parsed, x) {
			t.Errorf("ParseType(%q) is %v, %v", text, parsed, ok)
		}
	}
}

func TestFormatTypeNeedsAllNodes(t *testing.T) {
	hosts := []impl.Type{
		listType(intType()), recType("a", intType()), sumType("a", intType()),
		recType("a b c", sumType("p q", listType(boolType()), intType()), boolType(), listType(recType("x", intType()))),
	}
	for _, host := range hosts {
		for _, node := range formlessTypes() {
			for _, x := range withNodeReplaced(host, node) {
				if text := impl.FormatType(x); text != "" {
					t.Errorf("FormatType(%v) is %q", x, text)
				}
				checkTypeText(t, typeText(x), isTypeText(typeText(x)))
			}
		}
	}
}

func TestParseTypeRejects(t *testing.T) {
	texts := []string{
		"", " ", "T", "i", "b", "?", "\x00", "\xff", "0", "Int", "II", "IB", "I,B", "I,", ",I", ":", ",", "a", "a:I", "I:I",
		"{}", "<>", "[]", "{ }", "[{}]", "[<>]", "{a:{}}", "{a:<>}", "<a:{}>", "{a:I,b:{}}", "{:}", "<:>", "{,}", "{a}", "{a:}", "<a:>", "{:I}", "<:I>", "{I}", "<I>", "{a,b}", "[a:I]", "[I,I]", "[I,]", "[,I]", "[II]",
		"{b:I,a:I}", "<b:I,a:I>", "{aa:I,a:I}", "{aa:I,a9:I}", "{a:I,c:I,b:I}", "{a:I,a:I}", "<a:I,a:B>", "{a:I,b:I,b:I}", "{a:I,b:I,a:I}", "{b:I,c:I,a:I}", "[{b:I,a:I}]", "{p:<b:I,a:I>}",
		"{A:I}", "<A:I>", "{aB:I}", "{0:I}", "{0a:I}", "{9:I}", "{abcde:I}", "<abcde:I>", "{a-:I}", "{a_:I}", "{a.b:I}", "{\u00e9:I}", "{a\u00e9:I}", "{a\xff:I}", "{\x00:I}", "{a\x00:I}", "{a\u0661:I}", "{\uff41:I}", "{\xe1:I}", "{a:I,B:I}", "{a:I,0:I}", "{a:I,:I}", "{a:I,abcde:I}",
		"{a:I,}", "<a:I,>", "{a:I,b:I,}", "<a:I,b:B,>", "{,a:I}", "{a:I,,b:I}", "[{a:I,}]", "{a:I,b}", "{a:I,b:}", "{a:I b:I}", "{a:I;b:I}", "{a:Ib:I}", "{a=I}", "{aI}", "{a::I}", "{a:b:I}",
		"[", "]", "[I", "I]", "{", "}", "{a", "{a:", "{a:I", "{a:I,", "{a:I,b:I", "a:I}", "<", ">", "<a:I", "<a:I,", "[[I]", "[I]]", "{a:[I}", "{a:[I}]", "[{a:I]}", "{a:I>", "<a:I}", "{a:I]", "[I}", "[I>", "(I)", "{a:{b:I}", "{a:I}}", "<a:<b:I>", "<a:I>>",
		" I", "I ", "  I", "I\n", "\nI", "\tI", "I\x00", "\x00I", "\xffI", "I\xff", "\ufeffI", "I\r\n", "xI", "Ix", "{a:I}x", "x{a:I}", "{a:I} ", " {a:I}", "[I] ", "[I]I", "I[I]", "[I][I]", "{a:I}{b:I}",
		"[ I]", "[I ]", "{ a:I}", "{a :I}", "{a: I}", "{a:I }", "{a:I ,b:I}", "{a:I, b:I}", "< a:I>", "<a:I, b:I>", "{a:I,\nb:I}", "{a\t:I}",
	}
	for _, s := range texts {
		if isTypeText(s) {
			t.Fatalf("%q is a representation", s)
		}
		checkTypeText(t, s, false)
	}
}

// TestParseTypeOfAllShortTexts compares the results with the words of the specification.
func TestParseTypeOfAllShortTexts(t *testing.T) {
	found := 0
	check := func(s string) {
		want := isTypeText(s)
		checkTypeText(t, s, want)
		if want {
			found++
		}
	}
	textsOver("IB{}<>[]:,ab1A ", 4, check)
	textsOver("I{}:,a", 6, check)
	textsOver("I[]<>:a", 5, check)
	if found == 0 {
		t.Error("no representation among all short texts")
	}
	// Texts like these are too long to be found among the ones above.
	names := []string{"a", "b", "c1", "d", "", "B", "abcde"}
	listsOver(names, 5, func(labels []string) {
		inside := strings.Join(labels, ":I,") + ":I"
		check("{" + inside + "}")
		check("<" + inside + ">")
	})
}

// TestParseTypeOfChangedTexts has all representations with one byte left out, put in or replaced.
func TestParseTypeOfChangedTexts(t *testing.T) {
	bytes := "IB{}<>[]:,ab19AT \n\x00\xff\xe1"
	for _, x := range validTypes() {
		s := typeText(x)
		if len(s) > 60 {
			continue
		}
		checkTypeText(t, s, true)
		for k := range len(s) + 1 {
			before, after := s[:k], s[k:]
			checkTypeText(t, before, isTypeText(before))
			checkTypeText(t, after, isTypeText(after))
			for j := range len(bytes) {
				put := before + bytes[j:j+1]
				checkTypeText(t, put+after, isTypeText(put+after))
				if after != "" {
					checkTypeText(t, put+after[1:], isTypeText(put+after[1:]))
				}
			}
			if after != "" {
				checkTypeText(t, before+after[1:], isTypeText(before+after[1:]))
			}
		}
	}
}

func TestTypeTextAtMostSize(t *testing.T) {
	for size := 1; size <= 3*mostTypeSize; size++ {
		x := typeOfSize(size)
		for _, x := range []impl.Type{x, listType(x), recType("a", x), sumType("a b", x, boolType())} {
			nodes, _ := sizeAndDepth(x)
			checkTypeText(t, typeText(x), nodes <= mostTypeSize)
			if text := impl.FormatType(x); (text != "") != (nodes <= mostTypeSize) {
				t.Errorf("with %d nodes FormatType is %q", nodes, text)
			}
		}
	}
	// As large as the labels and the depth permit.
	full := nest(intType(), mostTypeDepth-1, func(t impl.Type) impl.Type { return recType("a b c d", t, t, t, t) })
	checkTypeText(t, typeText(full), false)
	if impl.FormatType(full) != "" {
		t.Error("FormatType of a type with four parts everywhere")
	}
}

func TestTypeTextAtMostDepth(t *testing.T) {
	arounds := []func(impl.Type) impl.Type{
		listType,
		func(t impl.Type) impl.Type { return recType("a", t) },
		func(t impl.Type) impl.Type { return sumType("b", t) },
		func(t impl.Type) impl.Type { return recType("a b", boolType(), t) },
		func(t impl.Type) impl.Type { return sumType("a b c", boolType(), t, intType()) },
	}
	for _, around := range arounds {
		for _, inner := range []impl.Type{intType(), boolType()} {
			for depth := 1; depth <= 12; depth++ {
				x := nest(inner, depth-1, around)
				checkTypeText(t, typeText(x), depth <= mostTypeDepth)
				if text := impl.FormatType(x); (text != "") != (depth <= mostTypeDepth) {
					t.Errorf("with a depth of %d FormatType is %q", depth, text)
				}
			}
		}
	}
	// Both limits together.
	deep := nest(intType(), mostTypeDepth-2, listType)
	checkTypeText(t, typeText(recType("a b", deep, typeOfSize(mostTypeSize-mostTypeDepth))), true)
	checkTypeText(t, typeText(recType("a b", deep, typeOfSize(mostTypeSize-mostTypeDepth+1))), false)
	checkTypeText(t, typeText(recType("a b", listType(deep), intType())), false)
}

func TestTypeTextAtMostLabels(t *testing.T) {
	labels := []string{"a", "b", "c", "d", "e", "f", "g"}
	for count := range len(labels) + 1 {
		for kind := 3; kind <= 4; kind++ {
			x := impl.Type{Kind: kind, Labels: labels[:count], Args: ints(count)}
			isType := count >= 1 && count <= mostLabels
			checkTypeText(t, typeText(x), isType)
			checkTypeText(t, typeText(listType(x)), isType)
			if text := impl.FormatType(x); (text != "") != isType {
				t.Errorf("with %d labels FormatType is %q", count, text)
			}
		}
	}
	for length := range 8 {
		label := strings.Repeat("z", length)
		isLabel := length >= 1 && length <= mostName
		checkTypeText(t, "{"+label+":I}", isLabel)
		checkTypeText(t, "<a:B,"+label+":I>", isLabel)
	}
}

func TestParseTypeOfLongTexts(t *testing.T) {
	const long = 1 << 18
	parts := []string{
		"I", "B", "[", "]", "{", "}", "<", ">", ":", ",", "a", "z9", " ", "\x00", "\xff",
		"{a:", "<a:", "{a:I,b:", "<a:B,b:", "[{a:", "{a:I}", "[I]", "[]", "{}", "{:", "{,", "[[]",
	}
	for _, part := range parts {
		many := strings.Repeat(part, long)
		for _, start := range []string{"", "I", "[", "{a:", "<a:I,b:", "{"} {
			for _, end := range []string{"", "I", "]", ":I}"} {
				checkTypeText(t, start+many+end, false)
			}
		}
	}
	pairs := [][2]string{{"[", "]"}, {"{a:", "}"}, {"<a:", ">"}, {"{a:I,b:", "}"}, {"{b:", ",c:I}"}}
	for _, pair := range pairs {
		for _, inner := range []string{"I", "B", "", "[I]"} {
			checkTypeText(t, strings.Repeat(pair[0], long)+inner+strings.Repeat(pair[1], long), false)
		}
	}
	// Deep enough to leave no room for a call for each bracket.
	for _, open := range []string{"[", "{a:", "<a:", "[{a:I,b:<c:"} {
		checkTypeText(t, strings.Repeat(open, 1<<23), false)
	}
	for _, brackets := range []string{"{}", "<>"} {
		wide := brackets[:1] + strings.Repeat("a:I,", long) + "b:I" + brackets[1:]
		checkTypeText(t, wide, false)
		checkTypeText(t, "["+wide+"]", false)
		checkTypeText(t, brackets[:1]+strings.Repeat("a", long)+":I"+brackets[1:], false)
		checkTypeText(t, brackets[:1]+"a:"+wide+",b:"+wide+brackets[1:], false)
	}
}

// TestFormatTypeOfHugeTypes has types that are deep, wide, larger than memory, or without end.
func TestFormatTypeOfHugeTypes(t *testing.T) {
	double := func(t impl.Type) impl.Type { return recType("a b", t, t) }
	ring := make([]impl.Type, 1)
	ring[0] = impl.Type{Kind: 5, Args: ring}
	labelledRing := make([]impl.Type, 2)
	labelledRing[0] = impl.Type{Kind: 4, Labels: []string{"a", "b"}, Args: labelledRing}
	labelledRing[1] = intType()
	wide := impl.Type{Kind: 3, Labels: slices.Repeat([]string{"a"}, 100000), Args: ints(100000)}
	list := []impl.Type{
		nest(intType(), 200000, listType), nest(intType(), 60, double), nest(boolType(), mostTypeDepth-1, double), wide, listType(wide), ring[0], labelledRing[0],
	}
	for _, x := range list {
		for _, x := range []impl.Type{x, listType(x), recType("a b", intType(), x)} {
			if text := impl.FormatType(x); text != "" {
				t.Errorf("FormatType of a huge type is %.50q", text)
			}
		}
	}
	// Parts in the same place are no obstacle to a valid type.
	shared := nest(intType(), 3, double)
	checkTypeText(t, impl.FormatType(shared), true)
	if impl.FormatType(shared) != typeText(shared) {
		t.Error("FormatType of a type with shared parts")
	}
}

func TestFormatTypeKeepsItsArgument(t *testing.T) {
	for depth := range 4 {
		for kind := range 7 {
			x := sparedType(depth)
			x.Kind = kind
			before := wholeOf(x)
			impl.FormatType(x)
			if !reflect.DeepEqual(wholeOf(x), before) {
				t.Errorf("%v became %v", before, wholeOf(x))
			}
		}
	}
	// What is behind the length is not part of the type.
	if text := impl.FormatType(sparedType(1)); text != "{a:I,b:I}" {
		t.Errorf("FormatType with unused capacity is %q", text)
	}
}

func TestParsedTypesAreNew(t *testing.T) {
	const text = "{p:{a:I,b:{x:B,y:[I]}},q:{a:I,b:{x:B,y:[I]}}}"
	first, ok := impl.ParseType(text)
	second, isSame := impl.ParseType(text)
	if !ok || !isSame {
		t.Fatal("not parsed")
	}
	overwrite(first.Args[0])
	if typeText(first.Args[1]) != "{a:I,b:{x:B,y:[I]}}" {
		t.Error("two slices of the result share memory")
	}
	overwrite(first)
	third, _ := impl.ParseType(text)
	if typeText(second) != text || typeText(third) != text {
		t.Error("two results share memory")
	}
}

func TestTypeTextsShareNoStrings(t *testing.T) {
	const text = "{ab:<cd:I,ef:[{x:B}]>}"
	x, ok := impl.ParseType(text)
	if !ok {
		t.Fatal("not parsed")
	}
	var labels []string
	for part := []impl.Type{x}; len(part) > 0; part = part[len(part)-1].Args {
		labels = append(labels, part[len(part)-1].Labels...)
	}
	if !slices.Equal(labels, []string{"ab", "cd", "ef", "x"}) {
		t.Fatal(labels)
	}
	formatted := impl.FormatType(x)
	for _, label := range labels {
		if shareMemory(text, label) || shareMemory(formatted, label) {
			t.Errorf("%q is in the memory of the text", label)
		}
	}
}
