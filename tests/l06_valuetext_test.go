package tests

import (
	"math"
	"reflect"
	"regexp"
	"slices"
	"strconv"
	"strings"
	"testing"

	"loop.example/g00592/impl"
)

// valueText is the definition; it has a text for nodes without a form too, and for values that are too large.
func valueText(v impl.Value) string {
	var parts []string
	for k, arg := range v.Args {
		if k < len(v.Labels) {
			parts = append(parts, v.Labels[k]+"="+valueText(arg))
		} else {
			parts = append(parts, valueText(arg))
		}
	}
	inside := strings.Join(parts, ",")
	switch v.Kind {
	case 1:
		return strconv.Itoa(v.N)
	case 2:
		return map[bool]string{true: "#t", false: "#f"}[v.N == 1]
	case 3:
		return "{" + inside + "}"
	case 4:
		return "<" + v.Name + " " + inside + ">"
	case 5:
		return "[" + inside + "]"
	}
	return "?"
}

const leaf = `(?:#t|#f|0|-?[1-9][0-9]{0,11}|V)`

var (
	innermostValue = regexp.MustCompile(`\[(?:` + leaf + `(?:,` + leaf + `)*)?\]|<[a-z][a-z0-9]{0,3} ` + leaf + `>|\{[^{}<>\[\]]*\}`)
	fieldsText     = regexp.MustCompile(`\A\{[a-z][a-z0-9]{0,3}=` + leaf + `(?:,[a-z][a-z0-9]{0,3}=` + leaf + `){0,3}\}\z`)
	leafText       = regexp.MustCompile(`\A` + leaf + `\z`)
	fieldLabel     = regexp.MustCompile(`[a-z0-9]+=`)
	leaves         = regexp.MustCompile(`#t|#f|[=, \[]-?[0-9]+`)
)

// isValueText finds out without a parser whether s is the representation of a value that ParseValue accepts: innermost
// values become V.
func isValueText(s string) bool {
	if strings.Contains(s, "V") || len(leaves.FindAllString(" "+s, -1))+countOf(s, "{<[") > mostValue {
		return false
	}
	for {
		reduced := innermostValue.ReplaceAllStringFunc(s, func(part string) string {
			if part[0] == '{' && !hasValueLabels(part) {
				return part
			}
			return "V"
		})
		if reduced == s {
			return leafText.MatchString(s)
		}
		s = reduced
	}
}

// hasValueLabels is for a text between brackets within which there are no others.
func hasValueLabels(part string) bool {
	labels := fieldLabel.FindAllString(part, -1)
	for k, label := range labels {
		labels[k] = strings.TrimSuffix(label, "=")
	}
	return fieldsText.MatchString(part) && slices.IsSorted(labels) && len(slices.Compact(slices.Clone(labels))) == len(labels)
}

// checkValueText checks ParseValue of s, which is a representation or is not.
func checkValueText(t *testing.T, s string, want bool) {
	t.Helper()
	v, ok := impl.ParseValue(s)
	if ok != want {
		t.Fatalf("ParseValue(%.200q) is %v, %v", s, v, ok)
	}
	if !ok && !isZeroValue(v) {
		t.Errorf("ParseValue(%.200q) is false with %v", s, v)
	}
	if ok && (!areNodes(v) || nodesOfValue(v) > mostValue || !impl.IsValue(v) || valueText(v) != s || impl.FormatValue(v) != s) {
		t.Errorf("ParseValue(%q) is %v, which is %q", s, v, impl.FormatValue(v))
	}
}

// canBeParsed reports whether ParseInt accepts all integers of a value.
func canBeParsed(v impl.Value) bool {
	if v.Kind == 1 && (v.N < leastInteger || v.N > mostInteger) {
		return false
	}
	return !slices.ContainsFunc(v.Args, func(arg impl.Value) bool { return !canBeParsed(arg) })
}

// validValues lists values, with those of all valid types.
func validValues() []impl.Value {
	list := someValidValues()
	for _, x := range validTypes() {
		list = append(list, valuesOfType(x)...)
	}
	return list
}

func TestValueTextTable(t *testing.T) {
	i := intValue
	cases := []struct {
		v    impl.Value
		text string
	}{
		{i(0), "0"},
		{i(5), "5"},
		{i(-3), "-3"},
		{i(mostInteger), "999999999999"},
		{i(leastInteger), "-999999999999"},
		{boolValue(1), "#t"},
		{boolValue(0), "#f"},
		{listValue(), "[]"},
		{listValue(i(1)), "[1]"},
		{listValue(i(1), i(2)), "[1,2]"},
		{listValue(i(-1), i(0), i(-20), i(300), i(0), i(7)), "[-1,0,-20,300,0,7]"},
		{listValue(listValue(), listValue(i(3))), "[[],[3]]"},
		{listValue(listValue(listValue()), listValue()), "[[[]],[]]"},
		{listValue(i(1), boolValue(1), listValue(), tagValue("p", i(2)), recValue("a", i(3))), "[1,#t,[],<p 2>,{a=3}]"},
		{recValue("a", i(1)), "{a=1}"},
		{recValue("a", boolValue(0)), "{a=#f}"},
		{recValue("abcd", listValue()), "{abcd=[]}"},
		{recValue("a b", i(1), listValue(boolValue(0))), "{a=1,b=[#f]}"},
		{recValue("a a0 a9 aa", i(-1), boolValue(1), listValue(), tagValue("z9", i(0))), "{a=-1,a0=#t,a9=[],aa=<z9 0>}"},
		{recValue("t", recValue("f", boolValue(1))), "{t={f=#t}}"},
		{tagValue("p", i(5)), "<p 5>"},
		{tagValue("q1", boolValue(0)), "<q1 #f>"},
		{tagValue("abcd", listValue()), "<abcd []>"},
		{tagValue("q", recValue("x", boolValue(1))), "<q {x=#t}>"},
		{tagValue("p", tagValue("q", tagValue("p", i(-5)))), "<p <q <p -5>>>"},
		{recValue("a b", i(1), listValue(tagValue("p", i(5)), tagValue("q", boolValue(1)), tagValue("p", i(7)))), "{a=1,b=[<p 5>,<q #t>,<p 7>]}"},
		{impl.Value{Kind: 1, Labels: []string{}, Args: []impl.Value{}}, "0"},
		{impl.Value{Kind: 5, Labels: []string{}, Args: []impl.Value{}}, "[]"},
	}
	for _, c := range cases {
		if text := impl.FormatValue(c.v); text != c.text {
			t.Errorf("FormatValue(%v) is %q, want %q", c.v, text, c.text)
		}
		if v, ok := impl.ParseValue(c.text); !ok || !sameValue(v, c.v) {
			t.Errorf("ParseValue(%q) is %v, %v, want %v", c.text, v, ok, c.v)
		}
	}
}

// TestValuesAreParsedFromTheirText is promise 6.
func TestValuesAreParsedFromTheirText(t *testing.T) {
	seen := map[string]impl.Value{}
	for _, v := range validValues() {
		text := impl.FormatValue(v)
		if text != valueText(v) || text == "" {
			t.Errorf("FormatValue(%v) is %q", v, text)
		}
		if other, isSeen := seen[text]; isSeen && !sameValue(v, other) {
			t.Errorf("%v and %v are both %q", v, other, text)
		}
		seen[text] = v
		if canBeParsed(v) != isValueText(text) {
			t.Fatalf("%q is a representation: %v", text, isValueText(text))
		}
		parsed, ok := impl.ParseValue(text)
		if ok != canBeParsed(v) || ok && (!sameValue(parsed, v) || !impl.EqualValue(parsed, v)) || !ok && !isZeroValue(parsed) {
			t.Errorf("ParseValue(%q) is %v, %v", text, parsed, ok)
		}
	}
}

func TestFormatValueNeedsAllNodes(t *testing.T) {
	for _, v := range someValues() {
		want := ""
		if areNodes(v) && nodesOfValue(v) <= mostValue {
			want = valueText(v)
		}
		if text := impl.FormatValue(v); text != want {
			t.Errorf("FormatValue(%v) is %q, want %q", v, text, want)
		}
	}
	hosts := []impl.Value{
		listValue(intValue(0)), recValue("a", intValue(0)), tagValue("a", intValue(0)), listValue(zeros(3)...),
		recValue("a b c d", intValue(0), tagValue("q", listValue(boolValue(0))), boolValue(1), listValue(recValue("x", intValue(0)), listValue())),
	}
	for _, host := range hosts {
		for _, node := range formlessValues() {
			for _, v := range withValueReplaced(host, node) {
				if text := impl.FormatValue(v); text != "" {
					t.Errorf("FormatValue(%v) is %q", v, text)
				}
				checkValueText(t, valueText(v), isValueText(valueText(v)))
			}
		}
	}
}

// checkInteger checks an integer alone and as a part, as FormatValue accepts more of them than ParseValue.
func checkInteger(t *testing.T, n int) {
	t.Helper()
	for _, v := range []impl.Value{intValue(n), listValue(boolValue(1), intValue(n)), tagValue("p", intValue(n)), recValue("a b", intValue(n), listValue())} {
		text := impl.FormatValue(v)
		if text != valueText(v) {
			t.Errorf("FormatValue(%v) is %q", v, text)
		}
		parsed, ok := impl.ParseValue(text)
		if want := leastInteger <= n && n <= mostInteger; ok != want || ok && !sameValue(parsed, v) || !ok && !isZeroValue(parsed) {
			t.Errorf("ParseValue(%q) is %v, %v", text, parsed, ok)
		}
	}
}

func TestIntegersOfValues(t *testing.T) {
	for shift := range 64 {
		for off := -2; off <= 2; off++ {
			checkInteger(t, 1<<shift+off)
			checkInteger(t, -(1<<shift)+off)
		}
	}
	for off := -3; off <= 3; off++ {
		checkInteger(t, mostInteger+off)
		checkInteger(t, leastInteger+off)
	}
	for power := 1; power <= 1e18; power *= 10 {
		checkInteger(t, power)
		checkInteger(t, -power)
		checkInteger(t, power-1)
	}
	checkInteger(t, math.MaxInt)
	checkInteger(t, math.MinInt)
	for _, s := range slices.Concat(noInteger(), tooLarge()) {
		for _, text := range []string{s, "<p " + s + ">", "{a=" + s + "}", "{a=1,b=" + s + "}", "[" + s + ",1]", "[1," + s + "]", "[" + s + "]"} {
			// In a list, no text at all means no elements, and a comma stands between two.
			checkValueText(t, text, text == "[]" || strings.HasPrefix(text, "[") && strings.Contains(s, ",") && isValueText(text))
		}
	}
}

func TestParseValueRejects(t *testing.T) {
	texts := []string{
		"", " ", "?", "V", "a", "I", "B", "{", "}", "[", "]", "<", ">", "=", ",", ":", "#", "-", "\x00", "\xff", "nil", "true", "{}", "<>", "{ }", "< >", "[ ]", "[{}]", "{a={}}", "<p {}>", "{a=1,b={}}",
		"#", "#x", "#T", "#F", "t", "f", "##t", "#tt", "#t#f", "#ff", "# t", "#true", "#1", "#0", "1#t", "#t1", "-#t", "[#]", "<p #>", "{a=#}", "[#t#f]", "[#tf]",
		"01", "00", "-0", "-", "+1", "--1", "1-", "1-2", "-01", "007", "1000000000000", "-1000000000000", "1 2", "1_0", "1.0", "1e3", "0x1", "1a", "a1",
		"<p>", "<p >", "< 5>", "<5>", "<p5>", "<p,5>", "<p=5>", "<p:5>", "<p  5>", "<p 5 >", "< p 5>", "<p\t5>", "<p\n5>", "<p 5 6>", "<p 5,6>", "<p 5,q 6>", "<p 5,>", "<p ,5>", "<p <q>>", "<p <q 5>", "<p <q 5>>>", "<<p 5>>", "<p q 5>", "<p p>", "<P 5>", "<0 5>", "<abcde 5>", "<1a 5>", "<a_ 5>", "<a- 5>", "<\u00e9 5>", "<a\xff 5>", "<a\x00 5>", "<p 01>", "<p -0>", "<p ->", "<#t 5>", "<p 5", "p 5>", "<p 5]", "<p 5}", "[p 5]",
		"{a}", "{a=}", "{=1}", "{=}", "{1}", "{a,b}", "{a=1,}", "{,a=1}", "{,}", "{a=1,,b=2}", "{a=1,b}", "{a=1,b=}", "{a=1 b=2}", "{a=1;b=2}", "{a=1b=2}", "{a:1}", "{a 1}", "{a==1}", "{a=b=1}", "{a=1=2}", "{a=a}", "{a-1}", "{#t}", "{#t=1}", "{1=1}", "{[]=1}",
		"{b=1,a=2}", "{a=1,a=2}", "{a=1,a=1}", "{aa=1,a=2}", "{aa=1,a9=2}", "{a=1,c=2,b=3}", "{a=1,b=2,b=3}", "{a=1,b=2,a=3}", "{b=1,c=2,a=3}", "[{b=1,a=2}]", "{p={b=1,a=2}}", "<p {b=1,a=2}>",
		"{A=1}", "{aB=1}", "{0=1}", "{0a=1}", "{abcde=1}", "{a-=1}", "{a_=1}", "{a.b=1}", "{\u00e9=1}", "{a\u00e9=1}", "{a\xff=1}", "{\x00=1}", "{a\x00=1}", "{a\u0661=1}", "{\uff41=1}", "{\xe1=1}", "{a=1,B=1}", "{a=1,0=1}", "{a=1,=1}", "{a=1,abcde=1}",
		"{a=1,b=2,c=3,d=4,e=5}", "[{a=1,b=2,c=3,d=4,e=5}]", "{a=1,b=2,c=3,d=4,}",
		"[,]", "[1,]", "[,1]", "[1,,2]", "[[],]", "[,[]]", "[1;2]", "[1 2]", "[[][]]", "[#t#f]", "[<p 1><p 2>]", "[a=1]", "[a]", "[1,a]", "[],", ",[]", "[1],", "[1,2", "[1", "1]", "[[1]", "[1]]", "[[]", "[]]", "[1}", "[1>", "{a=1]", "{a=1>", "{a=1", "a=1}", "{a=[1}]", "{a={b=1}", "{a=1}}", "(1)", "[{a=1]}",
		" 5", "5 ", "  5", "5\n", "\n5", "\t5", "5\x00", "\x005", "\xff5", "5\xff", "\ufeff5", "5\r\n", "\u0665", "\uff15", "x5", "5x", " #t", "#t ", "[]x", "x[]", "[] ", " []", "[][]", "[]5", "5[]", "{a=1}{b=2}", "1,2", "1,", ",1", "a=1",
		"[ 1]", "[1 ]", "[1 ,2]", "[1, 2]", "{ a=1}", "{a =1}", "{a= 1}", "{a=1 }", "{a=1 ,b=2}", "{a=1, b=2}", "{a=1,\nb=2}", "[- 1]", "[1,\n2]",
	}
	for _, s := range texts {
		if isValueText(s) {
			t.Fatalf("%q is a representation", s)
		}
		checkValueText(t, s, false)
	}
}

// TestParseValueOfAllShortTexts compares the results with the words of the specification.
func TestParseValueOfAllShortTexts(t *testing.T) {
	found := 0
	check := func(s string) {
		want := isValueText(s)
		checkValueText(t, s, want)
		if want {
			found++
		}
	}
	textsOver("01-#tfab{}<>[]=, A", 4, check)
	textsOver("1-0[],", 6, check)
	textsOver("1{}=,a", 6, check)
	textsOver("1<> a[]", 5, check)
	if found == 0 {
		t.Error("no representation among all short texts")
	}
	// Texts like these are too long to be found among the ones above.
	names := []string{"a", "b", "c1", "d", "", "B", "abcde"}
	listsOver(names, 5, func(labels []string) {
		check("{" + strings.Join(labels, "=1,") + "=1}")
		check("<" + strings.Join(labels, " <") + " 1" + strings.Repeat(">", len(labels)))
	})
}

// TestParseValueOfChangedTexts has representations that are cut off at each place, or have one byte left out, put in or
// replaced.
func TestParseValueOfChangedTexts(t *testing.T) {
	bytes := "019-+#tfaz{}<>[]=,: AV\n\x00\xff\xe1"
	var texts []string
	for _, v := range someValidValues() {
		if canBeParsed(v) {
			texts = append(texts, valueText(v))
		}
	}
	texts = append(texts, "-999999999999", "999999999999", "[99999999999,-10]", "{a=1,b=[<p 5>,<q #t>,<p 7>]}", "<q {x=[[],[3]],yz=<p -12>}>")
	for _, s := range texts {
		if len(s) > 45 {
			continue
		}
		checkValueText(t, s, true)
		for k := range len(s) + 1 {
			before, after := s[:k], s[k:]
			checkValueText(t, before, isValueText(before))
			checkValueText(t, after, isValueText(after))
			for j := range len(bytes) {
				put := before + bytes[j:j+1]
				checkValueText(t, put+after, isValueText(put+after))
				if after != "" {
					checkValueText(t, put+after[1:], isValueText(put+after[1:]))
				}
			}
			if after != "" {
				checkValueText(t, before+after[1:], isValueText(before+after[1:]))
			}
		}
	}
}

// TestParseValueOfTextsCutOff has texts of many nodes too.
func TestParseValueOfTextsCutOff(t *testing.T) {
	for _, v := range []impl.Value{valueOfSize(mostValue), listValue(zeros(mostValue - 1)...), nestValue(intValue(0), mostValue-1, caseAround)} {
		s := valueText(v)
		checkValueText(t, s, true)
		for k := range len(s) {
			checkValueText(t, s[:k], false)
			checkValueText(t, s[k+1:], false)
		}
	}
}

func TestValueTextAtMostSize(t *testing.T) {
	four := func(size int) impl.Value {
		return recValue("a b c d", intValue(1), valueOfSize((size-3)/2), boolValue(0), valueOfSize(size-3-(size-3)/2))
	}
	for size := 1; size <= 2*mostValue; size++ {
		part := max(size-2, 0)
		list := []impl.Value{
			valueOfSize(size), listValue(zeros(size - 1)...), four(max(size, 5)),
			nestValue(intValue(0), size-1, listAround), nestValue(boolValue(0), size-1, recordAround), nestValue(listValue(), size-1, caseAround),
			listValue(slices.Repeat([]impl.Value{listValue()}, size-1)...), listValue(slices.Repeat([]impl.Value{boolValue(1)}, size-1)...),
			listValue(nestValue(intValue(0), part, caseAround)), listValue(intValue(0), valueOfSize(part)), listValue(valueOfSize(part), intValue(0)),
		}
		for k, v := range list {
			nodes := nodesOfValue(v)
			checkValueText(t, valueText(v), nodes <= mostValue)
			if text := impl.FormatValue(v); (text != "") != (nodes <= mostValue) {
				t.Errorf("with %d nodes FormatValue of value %d is %q", nodes, k, text)
			}
		}
	}
}

func TestValueTextAtMostLabels(t *testing.T) {
	labels := []string{"a", "b", "c", "d", "e", "f", "g"}
	for count := range len(labels) + 1 {
		v := impl.Value{Kind: 3, Labels: labels[:count], Args: zeros(count)}
		isRecord := count >= 1 && count <= mostLabels
		checkValueText(t, valueText(v), isRecord)
		checkValueText(t, valueText(listValue(v)), isRecord)
		if text := impl.FormatValue(v); (text != "") != isRecord {
			t.Errorf("with %d labels FormatValue is %q", count, text)
		}
	}
	for length := range 8 {
		label := strings.Repeat("z", length)
		isLabel := length >= 1 && length <= mostName
		checkValueText(t, "{"+label+"=1}", isLabel)
		checkValueText(t, "{a=1,"+label+"=#t}", isLabel)
		checkValueText(t, "<"+label+" []>", isLabel)
	}
	for _, labels := range wrongLabels() {
		checkValueText(t, valueText(impl.Value{Kind: 3, Labels: labels, Args: zeros(len(labels))}), false)
	}
	for _, name := range wrongNames() {
		checkValueText(t, valueText(tagValue(name, intValue(0))), false)
	}
}

func TestParseValueOfLongTexts(t *testing.T) {
	const long = 1 << 18
	parts := []string{
		"1", "0", "-", "#", "#t", "[", "]", "{", "}", "<", ">", "=", ",", " ", "a", "z9", "\x00", "\xff",
		"{a=", "<a ", "{a=1,b=", "[<a ", "{a=1}", "[1]", "[]", "[],", "1,", "#f,", "a=1,", "{}", "{=", "{,", "[[]", "[1,", "[#t,", "<a [],", "<",
	}
	for _, part := range parts {
		many := strings.Repeat(part, long)
		for _, start := range []string{"", "1", "[", "{a=", "<a ", "[[],", "{"} {
			for _, end := range []string{"", "1", "]", "1]", "=1}"} {
				checkValueText(t, start+many+end, false)
			}
		}
	}
	pairs := [][2]string{{"[", "]"}, {"{a=", "}"}, {"<a ", ">"}, {"{a=1,b=", "}"}, {"{b=", ",c=1}"}, {"[1,", "]"}, {"[", ",1]"}}
	for _, pair := range pairs {
		for _, inner := range []string{"1", "#t", "", "[]"} {
			checkValueText(t, strings.Repeat(pair[0], long)+inner+strings.Repeat(pair[1], long), false)
		}
	}
	// Deep enough to leave no room for a call for each bracket.
	for _, open := range []string{"[", "{a=", "<a ", "[{a=1,b=<c "} {
		checkValueText(t, strings.Repeat(open, 1<<23), false)
	}
	wide := "[" + strings.Repeat("a=1,", long) + "b=1]"
	checkValueText(t, wide, false)
	checkValueText(t, "{"+wide[1:len(wide)-1]+"}", false)
	checkValueText(t, "{"+strings.Repeat("a", long)+"=1}", false)
	checkValueText(t, "<"+strings.Repeat("a", long)+" 1>", false)
	checkValueText(t, "["+strings.Repeat("9", long)+"]", false)
}

// TestFormatValueOfHugeValues has values that are deep, wide, larger than memory, or without end.
func TestFormatValueOfHugeValues(t *testing.T) {
	double := func(v impl.Value) impl.Value { return recValue("a b", v, v) }
	ring := make([]impl.Value, 1)
	ring[0] = impl.Value{Kind: 5, Args: ring}
	labelledRing := make([]impl.Value, 2)
	labelledRing[0] = impl.Value{Kind: 3, Labels: []string{"a", "b"}, Args: labelledRing}
	labelledRing[1] = intValue(0)
	caseRing := make([]impl.Value, 1)
	caseRing[0] = impl.Value{Kind: 4, Name: "a", Args: caseRing}
	wide := listValue(zeros(100000)...)
	labels := impl.Value{Kind: 3, Labels: slices.Repeat([]string{"a"}, 100000), Args: wide.Args}
	list := []impl.Value{
		nestValue(intValue(0), 200000, listAround), nestValue(intValue(0), 200000, caseAround), nestValue(intValue(0), 60, double), wide, labels,
		tagValue(strings.Repeat("a", 100000), intValue(0)), ring[0], labelledRing[0], caseRing[0],
	}
	for _, v := range list {
		for _, v := range []impl.Value{v, listValue(v), recValue("a b", intValue(0), v), tagValue("p", v)} {
			if text := impl.FormatValue(v); text != "" {
				t.Errorf("FormatValue of a huge value is %.50q", text)
			}
		}
	}
	// Parts in the same place are no obstacle to a value.
	shared := nestValue(intValue(0), 7, double)
	checkValueText(t, impl.FormatValue(shared), true)
	if impl.FormatValue(shared) != valueText(shared) {
		t.Error("FormatValue of a value with shared parts")
	}
}

func TestFormatValueKeepsItsArgument(t *testing.T) {
	for depth := range 4 {
		for kind := range 7 {
			v := sparedValue(depth)
			v.Kind = kind
			before := wholeOfValue(v)
			impl.FormatValue(v)
			if !reflect.DeepEqual(wholeOfValue(v), before) {
				t.Errorf("%v became %v", before, wholeOfValue(v))
			}
		}
	}
	// What is behind the length is not part of the value.
	if text := impl.FormatValue(sparedValue(1)); text != valueText(sparedValue(1)) || text == "" {
		t.Errorf("FormatValue with unused capacity is %q", text)
	}
}

func TestParsedValuesAreNew(t *testing.T) {
	const part = "{a=1,b=[<x #t>,<x #f>]}"
	const text = "{p=" + part + ",q=" + part + ",r=[]}"
	first, ok := impl.ParseValue(text)
	second, isSame := impl.ParseValue(text)
	if !ok || !isSame {
		t.Fatal("not parsed")
	}
	overwriteValue(first.Args[0])
	if valueText(first.Args[1]) != part {
		t.Error("two slices of the result share memory")
	}
	overwriteValue(first)
	third, _ := impl.ParseValue(text)
	if valueText(second) != text || valueText(third) != text {
		t.Error("two results share memory")
	}
	// Appending to one list must not reach another one.
	_ = append(second.Args[0].Args[1].Args, intValue(7))
	_ = append(second.Args[2].Args, intValue(7))
	if valueText(second) != text {
		t.Error("two slices of the result share unused capacity")
	}
}

func TestValueTextsShareNoStrings(t *testing.T) {
	text := strings.Clone("{ab=<cd 1>,ef=[{x=<gh #t>}]}")
	v, ok := impl.ParseValue(text)
	if !ok {
		t.Fatal("not parsed")
	}
	var names []string
	var collect func(impl.Value)
	collect = func(v impl.Value) {
		names = append(append(names, v.Labels...), v.Name)
		for _, arg := range v.Args {
			collect(arg)
		}
	}
	collect(v)
	names = slices.DeleteFunc(names, func(name string) bool { return name == "" })
	if !slices.Equal(names, []string{"ab", "ef", "cd", "x", "gh"}) {
		t.Fatal(names)
	}
	formatted := impl.FormatValue(v)
	for k, name := range names {
		if shareMemory(text, name) || shareMemory(formatted, name) {
			t.Errorf("%q is in the memory of the text", name)
		}
		for _, other := range names[:k] {
			if shareMemory(name, other) {
				t.Errorf("%q and %q share memory", name, other)
			}
		}
	}
}
