package tests

import (
	"fmt"
	"math"
	"math/rand"
	"reflect"
	"slices"
	"strings"
	"sync"
	"testing"

	"loop.example/g00592/impl"
)

func valueOfText(t *testing.T, s string) impl.Value {
	t.Helper()
	v, ok := impl.ParseValue(s)
	if !ok {
		t.Fatalf("%q is no value", s)
	}
	return v
}

func eachOptic() impl.Optic { return impl.Optic{Kind: 4} }

func revOptic() impl.Optic { return impl.Optic{Kind: 9} }

// visitFoci is the definition of Foci, by the words of chapters 7 and 11, for an optic that fits v.
func visitFoci(o impl.Optic, v impl.Value, visit func(impl.Value)) {
	switch o.Kind {
	case 1:
		visit(v)
	case 2, 4, 5, 6:
		for k, arg := range v.Args {
			if o.Kind == 2 && v.Labels[k] == o.Name || o.Kind == 4 || o.Kind == 5 || o.Kind == 6 && k == o.N {
				visit(arg)
			}
		}
	case 3:
		if v.Name == o.Name {
			visit(v.Args[0])
		}
	case 7:
		visit(intValue(v.N + o.N))
	case 8:
		visit(boolValue(map[int]int{0: 1, 1: 0}[v.N]))
	case 10:
		visit(recValue(o.Name, v))
	case 12:
		visitFoci(o.Args[0], v, func(focus impl.Value) { visitFoci(o.Args[1], focus, visit) })
	default:
		visitOtherFoci(o, v, visit)
	}
}

func visitOtherFoci(o impl.Optic, v impl.Value, visit func(impl.Value)) {
	list := impl.Value{Kind: 5}
	isFound := false
	switch o.Kind {
	case 9:
		for k := len(v.Args) - 1; k >= 0; k-- {
			list.Args = append(list.Args, v.Args[k])
		}
		visit(list)
	case 11:
		for _, arg := range v.Args {
			visitFoci(o.Args[0], arg, func(focus impl.Value) { list.Args = append(list.Args, focus) })
		}
		visit(list)
	case 13:
		visitFoci(o.Args[0], v, func(focus impl.Value) { isFound = true })
		if isFound {
			visitFoci(o.Args[0], v, visit)
		} else {
			visitFoci(o.Args[1], v, visit)
		}
	}
}

func fociBy(o impl.Optic, v impl.Value) []impl.Value {
	var foci []impl.Value
	visitFoci(o, v, func(focus impl.Value) { foci = append(foci, focus) })
	return foci
}

// isOneOf is the definition of HasType.
func isOneOf(v impl.Value, s impl.Type) bool {
	return isTypeBy(s) && nodesOfValue(v) <= mostValue && areNodes(v) && isValueOf(v, s)
}

// checkFoci checks the three functions where there are foci, or none, but no failure.
func checkFoci(t *testing.T, s impl.Type, o impl.Optic, v impl.Value, want []impl.Value) {
	t.Helper()
	foci, ok := impl.Foci(s, o, v)
	if !ok || !slices.EqualFunc(foci, want, sameValue) {
		t.Errorf("Foci(%v, %v, %v) is %v, %v, want %v", s, o, v, foci, ok, want)
	}
	if count := impl.CountFoci(s, o, v); count != len(want) {
		t.Errorf("CountFoci(%v, %v, %v) is %d, want %d", s, o, v, count, len(want))
	}
	first, isThere := impl.FirstFocus(s, o, v)
	if isThere != (len(want) > 0) || isThere && !sameValue(first, want[0]) || !isThere && !isZeroValue(first) {
		t.Errorf("FirstFocus(%v, %v, %v) is %v, %v, want the first of %v", s, o, v, first, isThere, want)
	}
	checkFociOfKind(t, s, o, foci)
}

// checkFociOfKind is promise 11 for one optic, whose foci must have its focus type too.
func checkFociOfKind(t *testing.T, s impl.Type, o impl.Optic, foci []impl.Value) {
	t.Helper()
	focus, kind, ok := impl.OpticType(s, o)
	least, most := impl.FociRange(kind)
	if !ok || len(foci) < least || most >= 0 && len(foci) > most {
		t.Errorf("%v of the kind %d has %d foci", o, kind, len(foci))
	}
	for _, x := range foci {
		if !areNodes(x) || !isValueOf(x, focus) {
			t.Errorf("for %v the focus %v of %v does not have the type %v", s, x, o, focus)
		}
	}
}

// checkNoFoci checks the three functions where Foci fails.
func checkNoFoci(t *testing.T, s impl.Type, o impl.Optic, v impl.Value) {
	t.Helper()
	if foci, ok := impl.Foci(s, o, v); ok || len(foci) != 0 {
		t.Errorf("Foci(%v, %v, %v) is %v, %v", s, o, v, foci, ok)
	}
	if count := impl.CountFoci(s, o, v); count != -1 {
		t.Errorf("CountFoci(%v, %v, %v) is %d", s, o, v, count)
	}
	if first, ok := impl.FirstFocus(s, o, v); ok || !isZeroValue(first) {
		t.Errorf("FirstFocus(%v, %v, %v) is %v, %v", s, o, v, first, ok)
	}
}

// checkFociWithin checks the foci of an optic, and those that it has in the foci of others and in choices.
func checkFociWithin(t *testing.T, s impl.Type, o impl.Optic, v impl.Value, want []impl.Value) {
	t.Helper()
	checkFoci(t, s, o, v, want)
	checkFoci(t, s, thenOptic(idOptic(), o), v, want)
	checkFoci(t, s, thenOptic(o, idOptic()), v, want)
	checkFoci(t, s, thenOptic(wrapOptic("w"), thenOptic(fieldOptic("w"), o)), v, want)
	checkFoci(t, recType("k v", boolType(), s), thenOptic(fieldOptic("v"), o), recValue("k v", boolValue(1), v), want)
	checkFoci(t, recType("k v", s, s), thenOptic(impl.Optic{Kind: 5}, o), recValue("k v", v, v), slices.Repeat(want, 2))
	choice := sumType("p q", boolType(), s)
	checkFoci(t, choice, thenOptic(caseOptic("q"), o), tagValue("q", v), want)
	checkFoci(t, choice, thenOptic(caseOptic("q"), o), tagValue("p", boolValue(1)), nil)
	for count := range 4 {
		list := listValue(slices.Repeat([]impl.Value{v}, count)...)
		checkFoci(t, listType(s), thenOptic(eachOptic(), o), list, slices.Repeat(want, count))
		checkFoci(t, listType(s), thenOptic(atOptic(2), o), list, slices.Repeat(want, count/3))
	}
	_, kind := typeBy(s, o)
	if kind == 1 {
		checkFoci(t, listType(s), mapOptic(o), listValue(v, v), []impl.Value{listValue(want[0], want[0])})
		checkFoci(t, listType(s), mapOptic(o), listValue(), []impl.Value{listValue()})
	}
	if kind != 5 {
		checkFoci(t, s, elseOptic(o, o), v, want)
	}
}

// A fociRow has the foci with ";" between them, or "none".
type fociRow struct {
	source string
	value  string
	optic  string
	foci   string
}

func checkFociRows(t *testing.T, rows []fociRow) {
	t.Helper()
	for _, row := range rows {
		s, v, o := typeOfText(t, row.source), valueOfText(t, row.value), opticOfText(t, row.optic)
		var want []impl.Value
		if row.foci != "none" {
			for text := range strings.SplitSeq(row.foci, ";") {
				want = append(want, valueOfText(t, text))
			}
		}
		if !slices.EqualFunc(fociBy(o, v), want, sameValue) {
			t.Errorf("by the definition the foci of %v are %v", row, fociBy(o, v))
		}
		checkFociWithin(t, s, o, v, want)
	}
}

func TestFociOfParts(t *testing.T) {
	checkFociRows(t, []fociRow{
		{"I", "5", "id", "5"}, {"I", "-999999999999", "id", "-999999999999"}, {"B", "#f", "id", "#f"}, {"B", "#t", "id", "#t"}, {"[I]", "[]", "id", "[]"}, {"[I]", "[1,2]", "id", "[1,2]"}, {"{a:I,b:[B]}", "{a=1,b=[#t]}", "id", "{a=1,b=[#t]}"}, {"<p:I,q:B>", "<q #t>", "id", "<q #t>"},

		{"{a:I}", "{a=7}", ".a", "7"}, {"{a:I,b:B,c:[I],d:<p:I>}", "{a=1,b=#t,c=[2,3],d=<p 4>}", ".a", "1"}, {"{a:I,b:B,c:[I],d:<p:I>}", "{a=1,b=#t,c=[2,3],d=<p 4>}", ".b", "#t"}, {"{a:I,b:B,c:[I],d:<p:I>}", "{a=1,b=#t,c=[2,3],d=<p 4>}", ".c", "[2,3]"}, {"{a:I,b:B,c:[I],d:<p:I>}", "{a=1,b=#t,c=[2,3],d=<p 4>}", ".d", "<p 4>"},
		{"{a:I,aa:I,ab:I}", "{a=1,aa=2,ab=3}", ".aa", "2"}, {"{a:I,aa:I,ab:I}", "{a=1,aa=2,ab=3}", ".ab", "3"}, {"{a:{a:[I]}}", "{a={a=[5]}}", ".a", "{a=[5]}"}, {"{a:[I]}", "{a=[]}", ".a", "[]"},

		{"<p:I,q:B>", "<p 5>", "?p", "5"}, {"<p:I,q:B>", "<p 5>", "?q", "none"}, {"<p:I,q:B>", "<q #t>", "?p", "none"}, {"<p:I,q:B>", "<q #t>", "?q", "#t"}, {"<p:I>", "<p 0>", "?p", "0"},
		{"<a:I,b:B,c:[I],d:{x:I}>", "<d {x=3}>", "?d", "{x=3}"}, {"<a:I,b:B,c:[I],d:{x:I}>", "<d {x=3}>", "?c", "none"}, {"<a:I,b:B,c:[I],d:{x:I}>", "<c [1,2]>", "?c", "[1,2]"}, {"<a:I,b:B,c:[I],d:{x:I}>", "<a 1>", "?b", "none"}, {"<p:I,q:I>", "<q 1>", "?p", "none"}, {"<p:I,pp:I>", "<pp 1>", "?p", "none"}, {"<p:I,pp:I>", "<p 1>", "?pp", "none"}, {"<p:<p:I,q:I>,q:I>", "<p <q 4>>", "?p", "<q 4>"}, {"<p:<p:I,q:I>,q:I>", "<p <q 4>>", "?q", "none"},

		{"[I]", "[]", "each", "none"}, {"[I]", "[5]", "each", "5"}, {"[I]", "[5,6]", "each", "5;6"}, {"[I]", "[3,1,2,3,1]", "each", "3;1;2;3;1"}, {"[B]", "[#t,#f,#t]", "each", "#t;#f;#t"}, {"[[I]]", "[[1,2],[],[3]]", "each", "[1,2];[];[3]"}, {"[{a:I}]", "[{a=1},{a=2}]", "each", "{a=1};{a=2}"}, {"[<p:I,q:B>]", "[<p 1>,<q #t>,<p 2>]", "each", "<p 1>;<q #t>;<p 2>"},

		{"{a:I}", "{a=7}", "all", "7"}, {"{a:I,b:I}", "{a=2,b=1}", "all", "2;1"}, {"{a:B,b:B,c:B}", "{a=#t,b=#f,c=#t}", "all", "#t;#f;#t"}, {"{a:I,b:I,c:I,d:I}", "{a=4,b=2,c=3,d=1}", "all", "4;2;3;1"}, {"{a:[I],b:[I]}", "{a=[1],b=[]}", "all", "[1];[]"}, {"{a:{p:I,q:B},b:{p:I,q:B}}", "{a={p=1,q=#t},b={p=2,q=#f}}", "all", "{p=1,q=#t};{p=2,q=#f}"}, {"{a:<p:I,q:B>,b:<p:I,q:B>}", "{a=<q #t>,b=<p 1>}", "all", "<q #t>;<p 1>"},

		{"[I]", "[]", "at 0", "none"}, {"[I]", "[4]", "at 0", "4"}, {"[I]", "[4,5]", "at 0", "4"}, {"[I]", "[4,5,6]", "at 0", "4"},
		{"[I]", "[]", "at 1", "none"}, {"[I]", "[4]", "at 1", "none"}, {"[I]", "[4,5]", "at 1", "5"}, {"[I]", "[4,5,6]", "at 1", "5"}, {"[I]", "[4,5,6,7]", "at 1", "5"},
		{"[I]", "[4]", "at 2", "none"}, {"[I]", "[4,5]", "at 2", "none"}, {"[I]", "[4,5,6]", "at 2", "6"}, {"[I]", "[4,5,6,7]", "at 2", "6"}, {"[I]", "[4,5,6,7]", "at 3", "7"}, {"[I]", "[4,5,6,7]", "at 4", "none"},
		{"[I]", "[4]", "at 1000", "none"}, {"[[I]]", "[[1],[2,3]]", "at 1", "[2,3]"}, {"[[I]]", "[[1,2],[3]]", "at 2", "none"}, {"[{a:B}]", "[{a=#t}]", "at 0", "{a=#t}"},
	})
}

func TestFociOfIsomorphisms(t *testing.T) {
	checkFociRows(t, []fociRow{
		{"I", "5", "add 3", "8"}, {"I", "5", "add 0", "5"}, {"I", "5", "add -7", "-2"}, {"I", "-5", "add 5", "0"}, {"I", "0", "add 1000", "1000"}, {"I", "0", "add -1000", "-1000"},
		{"B", "#t", "not", "#f"}, {"B", "#f", "not", "#t"},
		{"[I]", "[]", "rev", "[]"}, {"[I]", "[1]", "rev", "[1]"}, {"[I]", "[1,2]", "rev", "[2,1]"}, {"[I]", "[3,1,2]", "rev", "[2,1,3]"}, {"[I]", "[1,2,3,4]", "rev", "[4,3,2,1]"}, {"[[I]]", "[[1,2],[3]]", "rev", "[[3],[1,2]]"},
		{"I", "5", "wrap w", "{w=5}"}, {"B", "#t", "wrap abcd", "{abcd=#t}"}, {"[I]", "[]", "wrap w", "{w=[]}"}, {"[I]", "[1,2]", "wrap w", "{w=[1,2]}"}, {"{a:I}", "{a=1}", "wrap a", "{a={a=1}}"}, {"<p:I,q:B>", "<q #t>", "wrap p", "{p=<q #t>}"},

		{"[I]", "[]", "map add 1", "[]"}, {"[I]", "[5]", "map add 1", "[6]"}, {"[I]", "[3,1,2]", "map add -1", "[2,0,1]"}, {"[I]", "[3,1,2]", "map id", "[3,1,2]"}, {"[B]", "[#t,#f]", "map not", "[#f,#t]"}, {"[I]", "[1,2]", "map wrap w", "[{w=1},{w=2}]"},
		{"[[I]]", "[[1,2],[],[3,4,5]]", "map rev", "[[2,1],[],[5,4,3]]"}, {"[[I]]", "[]", "map rev", "[]"}, {"[[I]]", "[[]]", "map rev", "[[]]"},

		// One of them within another one, or behind it.
		{"[[I]]", "[[1,2],[],[3]]", "map map add 10", "[[11,12],[],[13]]"}, {"[[B]]", "[[#t],[#f,#f]]", "map map not", "[[#f],[#t,#t]]"}, {"[[[I]]]", "[[[1,2]],[[3,4],[5]]]", "map map rev", "[[[2,1]],[[4,3],[5]]]"}, {"[[I]]", "[[1],[2,3]]", "map map wrap w", "[[{w=1}],[{w=2},{w=3}]]"}, {"[[I]]", "[[1],[2,3]]", "map wrap w", "[{w=[1]},{w=[2,3]}]"},
		{"[I]", "[1,2]", "map (add 1;wrap w)", "[{w=2},{w=3}]"}, {"[[I]]", "[[1,2],[3]]", "map (rev;map add 1)", "[[3,2],[4]]"}, {"[[I]]", "[[1,2],[3]]", "(map rev;rev)", "[[3],[2,1]]"}, {"[[I]]", "[[1,2],[3]]", "(rev;map rev)", "[[3],[2,1]]"}, {"[I]", "[1,2]", "(map (wrap a;wrap b);rev)", "[{b={a=2}},{b={a=1}}]"},
		{"I", "5", "(wrap a;wrap b)", "{b={a=5}}"}, {"I", "5", "(wrap w;wrap w)", "{w={w=5}}"}, {"I", "5", "(add 1;(wrap b;wrap a))", "{a={b=6}}"}, {"[I]", "[1,2]", "(wrap a;(wrap b;wrap c))", "{c={b={a=[1,2]}}}"},
		{"[I]", "[1,2,3]", "(rev;rev)", "[1,2,3]"}, {"B", "#t", "(not;not)", "#t"}, {"B", "#t", "(not;(not;not))", "#f"}, {"I", "5", "(add 1000;add 1000)", "2005"}, {"I", "5", "(add 3;add -3)", "5"}, {"[I]", "[1,2]", "(rev;wrap w)", "{w=[2,1]}"},
	})
}

func TestFociOfCompositions(t *testing.T) {
	checkFociRows(t, []fociRow{
		// The first part has no focus.
		{"<p:{a:I},q:B>", "<q #t>", "(?p;.a)", "none"}, {"[[I]]", "[]", "(each;each)", "none"}, {"[[I]]", "[[1]]", "(at 1;each)", "none"}, {"[I]", "[]", "(at 0;add 1)", "none"}, {"<p:I,q:I>", "<q 1>", "(?p;wrap w)", "none"}, {"[<p:I>]", "[]", "(each;?p)", "none"}, {"<p:[I],q:[I]>", "<q [1,2]>", "(?p;each)", "none"}, {"[I]", "[]", "(rev;each)", "none"},
		// One focus.
		{"{a:{b:I}}", "{a={b=5}}", "(.a;.b)", "5"}, {"{a:<p:I,q:B>}", "{a=<p 5>}", "(.a;?p)", "5"}, {"{a:<p:I,q:B>}", "{a=<p 5>}", "(.a;?q)", "none"}, {"{a:[I]}", "{a=[3,4]}", "(.a;each)", "3;4"}, {"{a:[I]}", "{a=[3,4]}", "(.a;at 1)", "4"}, {"{a:[I]}", "{a=[3,4]}", "(.a;at 2)", "none"}, {"{a:I}", "{a=1}", "(.a;add 1)", "2"}, {"<p:<q:I,r:I>>", "<p <r 3>>", "(?p;?r)", "3"}, {"<p:<q:I,r:I>>", "<p <r 3>>", "(?p;?q)", "none"}, {"I", "5", "(wrap a;.a)", "5"}, {"I", "5", "(wrap a;all)", "5"},
		{"[I]", "[1,2,3]", "(rev;each)", "3;2;1"}, {"[I]", "[1,2,3]", "(rev;at 0)", "3"}, {"[I]", "[1,2,3]", "(rev;at 2)", "1"}, {"[I]", "[1,2,3]", "(rev;at 3)", "none"}, {"[I]", "[1,2]", "(map add 10;each)", "11;12"}, {"[I]", "[1,2]", "(map wrap w;(each;.w))", "1;2"}, {"[I]", "[1,2]", "(map wrap w;(at 1;.w))", "2"},
		// Several.
		{"[I]", "[3,1,2]", "(each;add 10)", "13;11;12"}, {"[I]", "[3,1]", "(each;wrap w)", "{w=3};{w=1}"}, {"[{a:I,b:B}]", "[{a=1,b=#t},{a=2,b=#f}]", "(each;.b)", "#t;#f"}, {"{a:I,b:I}", "{a=1,b=2}", "(all;add 10)", "11;12"}, {"[[I]]", "[[1,2],[3]]", "(each;each)", "1;2;3"}, {"[[I]]", "[[1,2],[3,4]]", "(each;rev)", "[2,1];[4,3]"}, {"{a:[I],b:[I]}", "{a=[1,2],b=[3]}", "(all;each)", "1;2;3"}, {"{a:{x:I,y:I},b:{x:I,y:I}}", "{a={x=1,y=2},b={x=3,y=4}}", "(all;all)", "1;2;3;4"}, {"[{a:I,b:I}]", "[{a=1,b=2},{a=3,b=4}]", "(each;all)", "1;2;3;4"},
		// The second part has no focus for some of them, the first, the last or one between, or for all.
		{"[<p:I,q:B>]", "[<p 5>,<q #t>,<p 7>]", "(each;?p)", "5;7"}, {"[<p:I,q:B>]", "[<p 5>,<q #t>,<p 7>]", "(each;?q)", "#t"}, {"[<p:I,q:B>]", "[<q #f>,<q #t>]", "(each;?p)", "none"}, {"[[I]]", "[[],[1,2],[],[3],[]]", "(each;each)", "1;2;3"}, {"[[I]]", "[[1,2],[],[3]]", "(each;at 0)", "1;3"}, {"[[I]]", "[[1,2],[],[3]]", "(each;at 1)", "2"}, {"[[I]]", "[[],[]]", "(each;each)", "none"}, {"[[I]]", "[[1],[2]]", "(each;at 1)", "none"}, {"{a:<p:I,q:I>,b:<p:I,q:I>}", "{a=<p 1>,b=<q 2>}", "(all;?q)", "2"},
		{"[[[I]]]", "[[[1],[]],[],[[2,3]]]", "(each;(each;each))", "1;2;3"}, {"[[[I]]]", "[[[1],[]],[],[[2,3]]]", "((each;each);each)", "1;2;3"}, {"{a:I,b:[<p:I,q:B>]}", "{a=1,b=[<p 5>,<q #t>,<p 7>]}", "(.b;(each;?p))", "5;7"}, {"{a:I,b:[<p:I,q:B>]}", "{a=1,b=[<p 5>,<q #t>,<p 7>]}", "((.b;each);?p)", "5;7"}, {"[[I]]", "[[1,2],[3]]", "(map rev;(each;each))", "2;1;3"}, {"[[I]]", "[[1,2],[3]]", "(rev;(each;each))", "3;1;2"},
	})
}

func TestFociOfChoices(t *testing.T) {
	checkFociRows(t, []fociRow{
		// The first part has a focus: the second part, which may have one too, is not used.
		{"<p:I,q:I>", "<p 5>", "(?p|?q)", "5"}, {"{a:I,b:I}", "{a=1,b=2}", "(.a|.b)", "1"}, {"{a:I,b:I}", "{a=1,b=2}", "(.b|.a)", "2"}, {"I", "5", "(add 1|add 2)", "6"}, {"I", "5", "(id|add 2)", "5"}, {"[I]", "[4,5]", "(at 0|at 1)", "4"}, {"[I]", "[4,5]", "(at 1|at 0)", "5"}, {"[I]", "[4,5]", "((rev;at 0)|at 0)", "5"}, {"B", "#t", "(not|id)", "#f"}, {"[I]", "[1,2]", "(rev|id)", "[2,1]"}, {"[I]", "[1,2]", "(map add 1|rev)", "[2,3]"}, {"I", "5", "(wrap w|wrap w)", "{w=5}"},
		// The first part has none, the second one has one.
		{"<p:I,q:I>", "<q 5>", "(?p|?q)", "5"}, {"<p:{a:I,b:I},q:I>", "<q 9>", "((?p;.b)|?q)", "9"}, {"[I]", "[4]", "(at 1|at 0)", "4"}, {"[I]", "[4,5]", "(at 2|at 1)", "5"}, {"{a:[I],b:I}", "{a=[],b=7}", "((.a;at 0)|.b)", "7"}, {"{a:<p:I,q:B>,b:I}", "{a=<q #t>,b=7}", "((.a;?p)|.b)", "7"}, {"<p:I,q:I>", "<q 5>", "((?p;add 1)|(?q;add 2))", "7"}, {"<p:I,q:I,r:B>", "<q 5>", "((?p;wrap w)|(?q;wrap w))", "{w=5}"},
		// Neither has one.
		{"<p:I,q:I,r:B>", "<r #t>", "(?p|?q)", "none"}, {"[I]", "[]", "(at 0|at 1)", "none"}, {"[I]", "[4]", "(at 1|at 2)", "none"}, {"{a:[I],b:[I]}", "{a=[],b=[]}", "((.a;at 0)|(.b;at 0))", "none"}, {"<p:I,q:I>", "<q 1>", "(?p|?p)", "none"},
		// One choice within another one, ahead of or behind a part, and for each of several foci.
		{"<p:I,q:I,r:I,s:B>", "<p 1>", "((?p|?q)|?r)", "1"}, {"<p:I,q:I,r:I,s:B>", "<q 2>", "((?p|?q)|?r)", "2"}, {"<p:I,q:I,r:I,s:B>", "<r 3>", "((?p|?q)|?r)", "3"}, {"<p:I,q:I,r:I,s:B>", "<s #t>", "((?p|?q)|?r)", "none"}, {"<p:I,q:I,r:I,s:B>", "<q 2>", "(?p|(?q|?r))", "2"}, {"<p:I,q:I,r:I,s:B>", "<r 3>", "(?p|(?q|?r))", "3"}, {"<p:I,q:I,r:I,s:B>", "<s #t>", "(?p|(?q|?r))", "none"},
		{"[<p:I,q:I>]", "[<p 1>,<q 2>,<p 3>]", "(each;(?p|?q))", "1;2;3"}, {"[<p:I,q:I,r:B>]", "[<r #t>,<q 2>,<r #f>,<p 3>]", "(each;(?p|?q))", "2;3"}, {"<p:{a:I},q:{a:I}>", "<q {a=4}>", "((?p|?q);.a)", "4"}, {"<p:[I],q:[I]>", "<q [1,2]>", "((?p|?q);each)", "1;2"}, {"<p:[I],q:[I]>", "<p []>", "((?p|?q);each)", "none"}, {"<p:[I],q:I>", "<p []>", "((?p;at 0)|?q)", "none"}, {"<p:I,q:I>", "<q 1>", "((?p|?q);add 1)", "2"},
	})
}

// TestFociOfSumsWrapAround has integers at both ends of those that there are.
func TestFociOfSumsWrapAround(t *testing.T) {
	rows := []struct {
		n    int
		add  int
		want int
	}{
		{math.MaxInt, 1, math.MinInt}, {math.MaxInt, 1000, math.MinInt + 999}, {math.MaxInt - 999, 1000, math.MinInt}, {math.MaxInt - 1000, 1000, math.MaxInt}, {math.MaxInt, 0, math.MaxInt}, {math.MaxInt, -1, math.MaxInt - 1},
		{math.MinInt, -1, math.MaxInt}, {math.MinInt, -1000, math.MaxInt - 999}, {math.MinInt + 999, -1000, math.MaxInt}, {math.MinInt + 1000, -1000, math.MinInt}, {math.MinInt, 0, math.MinInt}, {math.MinInt, 1, math.MinInt + 1},
		{1 << 31, 1, 1<<31 + 1}, {1<<31 - 1, 1, 1 << 31}, {-1 << 31, -1, -1<<31 - 1}, {1<<53 + 1, 2, 1<<53 + 3},
	}
	for _, row := range rows {
		v, want := intValue(row.n), intValue(row.want)
		checkFociWithin(t, intType(), addOptic(row.add), v, []impl.Value{want})
		checkFoci(t, intType(), thenOptic(addOptic(row.add), addOptic(-row.add)), v, []impl.Value{v})
		checkFoci(t, listType(intType()), thenOptic(eachOptic(), addOptic(row.add)), listValue(v, intValue(0), v), []impl.Value{want, intValue(row.add), want})
	}
}

// TestFociAtAllIndices has lists of many lengths.
func TestFociAtAllIndices(t *testing.T) {
	list := impl.Value{Kind: 5}
	for length := range mostValue {
		for _, n := range []int{0, 1, 2, length - 2, length - 1, length, length + 1, 2*length + 1, mostStep} {
			if n < 0 {
				continue
			}
			var want, turned []impl.Value
			if n < length {
				want, turned = []impl.Value{intValue(n)}, []impl.Value{intValue(length - 1 - n)}
			}
			checkFoci(t, listType(intType()), atOptic(n), list, want)
			checkFoci(t, listType(intType()), thenOptic(revOptic(), atOptic(n)), list, turned)
		}
		checkFoci(t, listType(intType()), eachOptic(), list, list.Args)
		list.Args = append(list.Args, intValue(length))
	}
}

// checkFociBy compares the results with the definition, also where Foci fails; it reports whether it does not.
func checkFociBy(t *testing.T, s impl.Type, o impl.Optic, v impl.Value) bool {
	t.Helper()
	if _, kind := typeBy(s, o); kind == 0 || !isOneOf(v, s) {
		checkNoFoci(t, s, o, v)
		return false
	}
	checkFoci(t, s, o, v, fociBy(o, v))
	return true
}

// TestFociOfAllLeaves has all types with some of their values and with optics of all kinds that have no Args.
func TestFociOfAllLeaves(t *testing.T) {
	count := 0
	for _, s := range validTypes() {
		for _, v := range valuesOfType(s) {
			for _, o := range leafOptics() {
				if checkFociBy(t, s, o, v) {
					count++
				}
			}
		}
	}
	if count < 3000 {
		t.Errorf("%d optics that fit", count)
	}
}

// randomValue returns a value of a valid type, mostly a small one.
func randomValue(source *rand.Rand, s impl.Type) impl.Value {
	v := impl.Value{Kind: s.Kind}
	switch s.Kind {
	case 1:
		v.N = []int{source.Intn(9), -source.Intn(9), math.MinInt + source.Intn(3), math.MaxInt - source.Intn(3)}[source.Intn(4)]
	case 2:
		v.N = source.Intn(2)
	case 3:
		v.Labels = s.Labels
		for _, arg := range s.Args {
			v.Args = append(v.Args, randomValue(source, arg))
		}
	case 4:
		k := source.Intn(len(s.Args))
		v.Name, v.Args = s.Labels[k], []impl.Value{randomValue(source, s.Args[k])}
	case 5:
		for range source.Intn(5) {
			v.Args = append(v.Args, randomValue(source, s.Args[0]))
		}
	}
	return v
}

func TestFociOfRandomOptics(t *testing.T) {
	source := rand.New(rand.NewSource(11))
	types := validTypes()
	numbers := map[[2]int]int{}
	failures := 0
	for range 20000 {
		s := types[source.Intn(len(types))]
		o := randomFitting(source, s, 1+source.Intn(mostOptic))
		v := randomValue(source, s)
		if source.Intn(30) == 0 {
			v = randomValue(source, types[source.Intn(len(types))])
		}
		if !checkFociBy(t, s, o, v) {
			failures++
			continue
		}
		_, kind := typeBy(s, o)
		numbers[[2]int{kind, min(impl.CountFoci(s, o, v), 2)}]++
	}
	want := [][2]int{{1, 1}, {2, 1}, {3, 0}, {3, 1}, {4, 0}, {4, 1}, {5, 0}, {5, 1}, {5, 2}}
	for _, key := range want {
		if numbers[key] < 50 {
			t.Errorf("%d optics of the kind %d with %d foci", numbers[key], key[0], key[1])
		}
	}
	if len(numbers) != len(want) || failures < 500 {
		t.Errorf("kinds with numbers of foci: %v; %d without", numbers, failures)
	}
}

// TestAsManyFociAsTheKindSays is promise 11: it has optics of all five kinds, composed of two in all ways, in sources with
// all numbers of foci from 0 to 3.
func TestAsManyFociAsTheKindSays(t *testing.T) {
	numbers := map[int][]int{}
	for _, a := range kindSteps() {
		checkNumbersOfFoci(t, a.around(intType()), a.optic, a.kind, numbers)
		for _, b := range kindSteps() {
			checkNumbersOfFoci(t, a.around(b.around(intType())), thenOptic(a.optic, b.optic), joinBy(a.kind, b.kind), numbers)
		}
	}
	for kind, want := range [][]int{nil, {1}, {1}, {0, 1}, {0, 1}, {0, 1, 2, 3, 4, 6, 9}} {
		slices.Sort(numbers[kind])
		if got := slices.Compact(numbers[kind]); !slices.Equal(got, want) {
			t.Errorf("optics of the kind %d have %v foci", kind, got)
		}
	}
}

func checkNumbersOfFoci(t *testing.T, s impl.Type, o impl.Optic, kind int, numbers map[int][]int) {
	t.Helper()
	for _, v := range fullValues(s) {
		foci, ok := impl.Foci(s, o, v)
		if _, got, _ := impl.OpticType(s, o); !ok || got != kind || impl.CountFoci(s, o, v) != len(foci) {
			t.Errorf("Foci(%v, %v, %v) is %v, %v for the kind %d, want %d", s, o, v, foci, ok, got, kind)
		}
		checkFociOfKind(t, s, o, foci)
		numbers[kind] = append(numbers[kind], len(foci))
	}
}

// fullValues lists values of a type without booleans: with all cases, and lists of none to three equal elements.
func fullValues(s impl.Type) []impl.Value {
	var list []impl.Value
	switch s.Kind {
	case 1:
		return []impl.Value{intValue(1)}
	case 3:
		for _, v := range fullValues(s.Args[0]) {
			list = append(list, impl.Value{Kind: 3, Labels: s.Labels, Args: slices.Repeat([]impl.Value{v}, len(s.Args))})
		}
	case 4:
		for k, arg := range s.Args {
			for _, v := range fullValues(arg) {
				list = append(list, tagValue(s.Labels[k], v))
			}
		}
	case 5:
		for _, v := range fullValues(s.Args[0]) {
			for count := range 4 {
				list = append(list, listValue(slices.Repeat([]impl.Value{v}, count)...))
			}
		}
	}
	return list
}

// unfitRows has types with values of them, and optics that are not typed for the types, though some would fit the values.
func unfitRows() [][3]string {
	return [][3]string{
		{"{a:I,b:B}", "{a=1,b=#t}", ".c"}, {"{a:I}", "{a=1}", "?a"}, {"{a:I,b:B}", "{a=1,b=#t}", "all"}, {"{a:I}", "{a=1}", "each"}, {"{a:I}", "{a=1}", "at 0"}, {"{a:I}", "{a=1}", "rev"}, {"{a:I}", "{a=1}", "map id"},
		{"<p:I,q:B>", "<p 1>", "?r"}, {"<p:I,q:B>", "<p 1>", ".p"}, {"<p:I>", "<p 1>", "all"}, {"<p:I>", "<p 1>", "each"}, {"<p:I>", "<p 1>", "at 0"},
		{"[I]", "[1]", "all"}, {"[I]", "[1]", "add 1"}, {"[I]", "[1]", "map not"}, {"[I]", "[]", "map not"}, {"[[I]]", "[[1]]", "map each"}, {"[[I]]", "[[1]]", "map at 0"}, {"[[I]]", "[]", "map at 0"}, {"[I]", "[1]", "map (id|id)"}, {"[{a:I}]", "[{a=1}]", "map .a"}, {"[<p:I>]", "[<p 1>]", "map ?p"},
		{"I", "0", "not"}, {"I", "1", "not"}, {"B", "#t", "add 1"}, {"I", "1", "rev"}, {"I", "1", "each"}, {"I", "1", "all"}, {"I", "1", ".a"}, {"I", "1", "?a"}, {"I", "1", "at 0"}, {"B", "#t", "map id"},
		// The second part does not fit, though the first one has no focus, or one that would not need it.
		{"[I]", "[]", "(each;not)"}, {"[I]", "[]", "(at 0;.a)"}, {"<p:I,q:B>", "<q #t>", "(?p;not)"}, {"<p:I,q:B>", "<p 1>", "(?p|?q)"}, {"<p:I,q:B>", "<p 1>", "(?p|?r)"}, {"<p:I,q:I>", "<p 1>", "(?p|not)"}, {"<p:I,q:I>", "<q 1>", "(?r|?q)"}, {"[I]", "[1]", "(at 0|each)"}, {"[I]", "[1]", "(each|at 0)"}, {"[I]", "[1]", "(at 0|id)"}, {"I", "1", "(.a;id)"}, {"{a:I,b:B}", "{a=1,b=#t}", "(.a|.b)"},
	}
}

func TestFociOfUnfitOptics(t *testing.T) {
	for _, row := range unfitRows() {
		s, v, o := typeOfText(t, row[0]), valueOfText(t, row[1]), opticOfText(t, row[2])
		if !isOneOf(v, s) {
			t.Fatal(row)
		}
		checkNoFociWithin(t, s, o, v)
	}
}

// checkNoFociWithin checks that Foci fails, also where the optic is a part of another one.
func checkNoFociWithin(t *testing.T, s impl.Type, o impl.Optic, v impl.Value) {
	t.Helper()
	for _, x := range []impl.Optic{o, thenOptic(idOptic(), o), thenOptic(o, idOptic()), elseOptic(o, idOptic()), elseOptic(idOptic(), o), elseOptic(o, o)} {
		checkNoFoci(t, s, x, v)
	}
	for count := range 3 {
		list := listValue(slices.Repeat([]impl.Value{v}, count)...)
		checkNoFoci(t, listType(s), thenOptic(eachOptic(), o), list)
		checkNoFoci(t, listType(s), thenOptic(atOptic(0), o), list)
		checkNoFoci(t, listType(s), mapOptic(o), list)
	}
}

// otherValueRows has types with values that do not have them, although the optic leads into them, or past what is wrong.
func otherValueRows() [][3]string {
	return [][3]string{
		{"I", "#t", "id"}, {"B", "1", "id"}, {"B", "0", "not"}, {"I", "#t", "add 1"}, {"I", "[]", "wrap w"}, {"{a:I}", "5", "id"}, {"[I]", "5", "id"}, {"<p:I>", "5", "id"},
		{"{a:I,b:I}", "{a=1,c=2}", ".a"}, {"{a:I,b:I}", "{a=1}", ".a"}, {"{a:I,b:I}", "{a=1,b=#t}", ".a"}, {"{a:I}", "{a=1,b=2}", ".a"}, {"{a:I,b:I}", "{a=1,b=2,c=3}", "all"}, {"{a:I,b:I}", "{a=1,b=#t}", "all"}, {"{a:I}", "<a 1>", ".a"}, {"{a:I}", "[1]", "all"}, {"{a:[I],b:I}", "{a=[1,#t],b=1}", ".b"},
		{"<p:I,q:B>", "<r 1>", "?p"}, {"<p:I,q:B>", "<p #t>", "?p"}, {"<p:I,q:B>", "<p #t>", "?q"}, {"<p:I,q:B>", "<q 1>", "?p"}, {"<p:I>", "{p=1}", "?p"}, {"<p:I,q:I>", "<r 1>", "(?p|?q)"},
		{"[I]", "[1,#t]", "each"}, {"[I]", "[1,#t]", "at 0"}, {"[I]", "[#t]", "at 1"}, {"[I]", "[1,#t]", "rev"}, {"[I]", "[#t]", "map add 1"}, {"[I]", "[#t]", "map id"}, {"[I]", "{a=1}", "each"}, {"[[I]]", "[[1],2]", "(at 0;each)"}, {"[[I]]", "[[#t]]", "at 5"},
	}
}

func TestFociOfOtherValues(t *testing.T) {
	for _, row := range otherValueRows() {
		s, v, o := typeOfText(t, row[0]), valueOfText(t, row[1]), opticOfText(t, row[2])
		if _, kind := typeBy(s, o); kind == 0 {
			t.Fatal(row)
		}
		checkNoFoci(t, s, o, v)
		checkNoFoci(t, listType(s), thenOptic(eachOptic(), o), listValue(defaultOf(s), v))
		checkNoFoci(t, recType("k v", intType(), s), fieldOptic("k"), recValue("k v", intValue(1), v))
	}
	for _, s := range validTypes() {
		for _, v := range someValues() {
			checkFociBy(t, s, idOptic(), v)
		}
	}
}

// TestFociOfFormlessValues has sources of which one node is that of no value.
func TestFociOfFormlessValues(t *testing.T) {
	s := typeOfText(t, "{a:<p:[B],q:I>,b:B,c:[{x:I}]}")
	v := valueOfText(t, "{a=<p [#f,#t]>,b=#t,c=[{x=1},{x=2}]}")
	optics := []impl.Optic{idOptic(), fieldOptic("b"), opticOfText(t, "(.a;(?p;at 1))"), opticOfText(t, "(.c;(each;.x))"), opticOfText(t, "(.a;?q)")}
	for _, o := range optics {
		checkFoci(t, s, o, v, fociBy(o, v))
		for _, node := range formlessValues() {
			for _, changed := range withValueReplaced(v, node) {
				checkNoFoci(t, s, o, changed)
			}
		}
		for _, node := range []impl.Value{intValue(7), boolValue(0), listValue(), recValue("x", intValue(5)), tagValue("q", intValue(3))} {
			for _, changed := range withValueReplaced(v, node) {
				checkFociBy(t, s, o, changed)
			}
		}
	}
}

// TestFociForInvalidTypes has types that are not valid, though the value would not reach the part that is not.
func TestFociForInvalidTypes(t *testing.T) {
	i := intType()
	for _, x := range formlessTypes() {
		for _, v := range []impl.Value{{}, intValue(0), boolValue(0), recValue("a", intValue(0)), recValue("a b", intValue(0), intValue(0)), tagValue("a", intValue(0)), listValue(), listValue(intValue(0)), {Kind: x.Kind}, {Kind: x.Kind, Labels: x.Labels, Args: zeros(len(x.Args))}} {
			for _, o := range []impl.Optic{idOptic(), fieldOptic("a"), caseOptic("a"), eachOptic(), {Kind: 5}, atOptic(0), addOptic(1), {Kind: 8}, revOptic(), wrapOptic("w"), mapOptic(idOptic())} {
				checkNoFoci(t, x, o, v)
			}
		}
		for _, o := range []impl.Optic{idOptic(), eachOptic(), atOptic(0), revOptic(), wrapOptic("w"), mapOptic(idOptic())} {
			checkNoFoci(t, listType(x), o, listValue())
		}
		for _, o := range []impl.Optic{idOptic(), caseOptic("p"), caseOptic("q"), wrapOptic("w")} {
			checkNoFoci(t, sumType("p q", i, x), o, tagValue("p", intValue(0)))
		}
		for _, o := range []impl.Optic{idOptic(), fieldOptic("a"), fieldOptic("b"), {Kind: 5}} {
			checkNoFoci(t, recType("a b", i, listType(x)), o, recValue("a b", intValue(0), listValue()))
		}
	}
	for size := mostTypeSize - 2; size <= mostTypeSize+2; size++ {
		s := typeOfSize(size)
		v := defaultOf(s)
		checkFociBy(t, s, idOptic(), v)
		checkFociBy(t, s, wrapOptic("w"), v)
		checkFociBy(t, s, thenOptic(wrapOptic("w"), fieldOptic("w")), v)
		checkFociBy(t, listType(s), mapOptic(wrapOptic("w")), listValue())
		checkFociBy(t, sumType("p q", i, s), caseOptic("p"), tagValue("p", intValue(0)))
	}
	for depth := mostTypeDepth - 2; depth <= mostTypeDepth+2; depth++ {
		s := nest(i, depth-1, listType)
		v := nestValue(intValue(0), depth-1, listAround)
		checkFociBy(t, s, idOptic(), v)
		checkFociBy(t, s, eachOptic(), v)
		checkFociBy(t, s, wrapOptic("w"), v)
		checkFociBy(t, s, mapOptic(wrapOptic("w")), listValue())
	}
}

// TestFociOfNoOptics has values that are no optics, though a part of them, or one with fewer fields, would fit.
func TestFociOfNoOptics(t *testing.T) {
	sources := [][2]string{{"I", "1"}, {"B", "#t"}, {"{a:I,b:I}", "{a=1,b=2}"}, {"<a:I,b:I>", "<a 1>"}, {"[I]", "[1,2]"}, {"[[B]]", "[]"}}
	for _, source := range sources {
		s, v := typeOfText(t, source[0]), valueOfText(t, source[1])
		for _, o := range formlessOptics() {
			checkNoFociWithin(t, s, o, v)
		}
		for depth := mostOpticDepth - 2; depth <= mostOpticDepth+3; depth++ {
			for _, o := range []impl.Optic{nestOptic(idOptic(), depth-1, func(o impl.Optic) impl.Optic { return thenOptic(o, idOptic()) }), nestOptic(idOptic(), depth-1, func(o impl.Optic) impl.Optic { return elseOptic(idOptic(), o) })} {
				if depth > mostOpticDepth {
					checkNoFoci(t, s, o, v)
				} else {
					checkFoci(t, s, o, v, []impl.Value{v})
				}
			}
		}
		for size := 1; size <= 2*mostOptic; size += 2 {
			if size > mostOptic {
				checkNoFoci(t, s, balancedIds(size), v)
			} else {
				checkFoci(t, s, balancedIds(size), v, []impl.Value{v})
			}
		}
	}
}

// TestFociAtMostSize has sources of as many nodes as a value can have, and of more.
func TestFociAtMostSize(t *testing.T) {
	s := listType(intType())
	for size := mostValue - 3; size <= mostValue+3; size++ {
		v := listValue(zeros(size - 1)...)
		for _, o := range []impl.Optic{idOptic(), eachOptic(), atOptic(0), atOptic(size - 2), atOptic(size - 1), revOptic(), wrapOptic("w"), mapOptic(addOptic(1)), mapOptic(wrapOptic("w")), elseOptic(atOptic(mostStep), atOptic(0)), thenOptic(atOptic(mostStep), addOptic(1))} {
			if checkFociBy(t, s, o, v) != (size <= mostValue) {
				t.Errorf("with %d nodes Foci by %v fails, or does not", size, o)
			}
		}
		// Here a part of the source is small.
		v = recValue("k v", intValue(5), listValue(zeros(size-3)...))
		if checkFociBy(t, recType("k v", intType(), s), fieldOptic("k"), v) != (size <= mostValue) {
			t.Errorf("with %d nodes Foci of a field fails, or does not", size)
		}
	}
}

// TestFociOfMoreNodes has foci, and values on the way to them, that have more than MaxValue nodes.
func TestFociOfMoreNodes(t *testing.T) {
	s, v := listType(intType()), impl.Value{Kind: 5}
	for n := range mostValue - 1 {
		v.Args = append(v.Args, intValue(n))
	}
	check := func(optic string, sizes ...int) {
		t.Helper()
		o := opticOfText(t, optic)
		checkFoci(t, s, o, v, fociBy(o, v))
		foci, _ := impl.Foci(s, o, v)
		first, _ := impl.FirstFocus(s, o, v)
		for k, x := range foci {
			if k < len(sizes) && (nodesOfValue(x) != sizes[k] || impl.SizeOfValue(x) != sizes[k]) {
				t.Errorf("focus %d of %s has %d nodes, want %d", k, optic, nodesOfValue(x), sizes[k])
			}
		}
		if len(foci) == 0 || nodesOfValue(first) != sizes[0] || impl.IsValue(first) != (sizes[0] <= mostValue) {
			t.Errorf("the first focus of %s has %d nodes", optic, nodesOfValue(first))
		}
	}
	check("wrap w", 301)
	check("(wrap a;(wrap b;wrap c))", 303)
	check("map wrap w", 599)
	check("map (wrap a;wrap b)", 898)
	check("(map wrap a;map (wrap b;(wrap c;wrap d)))", 1496)
	check("(map wrap a;(rev;wrap b))", 600)
	check("(map wrap w;map id)", 599)
	check("((map wrap w;at 999)|(map wrap w;at 0))", 2)
	check("(map wrap w|map wrap w)", 599)
	// The focus is small again.
	check("(wrap w;.w)", 300)
	check("(wrap w;(.w;at 298))", 1)
	check("(map wrap w;(each;.w))", slices.Repeat([]int{1}, 299)...)
	check("(map wrap w;(at 298;.w))", 1)
	check("(map (wrap a;wrap b);(rev;(at 0;(.b;.a))))", 1)
	check("(wrap a;(all;each))", slices.Repeat([]int{1}, 299)...)
	// The foci are as deep as a type permits, and deeper.
	wrapped := func(o impl.Optic) impl.Optic { return thenOptic(wrapOptic("w"), o) }
	deepest := nestOptic(idOptic(), mostTypeDepth-2, wrapped)
	checkFoci(t, s, mapOptic(deepest), v, fociBy(mapOptic(deepest), v))
	checkNoFoci(t, s, mapOptic(wrapped(deepest)), v)
}

func TestFociKeepTheirArguments(t *testing.T) {
	optics := append(someValidOptics(), formlessOptics()...)
	for depth := range 4 {
		s, v := sparedType(depth), sparedValue(depth)
		list := impl.Value{Kind: 5, Args: []impl.Value{sparedValue(depth), sparedValue(depth), {Kind: 99}}[:2]}
		before, listBefore, typeBefore := wholeOfValue(v), wholeOfValue(list), wholeOf(s)
		for _, o := range optics {
			callFociFunctions(s, o, v)
			callFociFunctions(listType(s), o, list)
		}
		if !reflect.DeepEqual(wholeOfValue(v), before) || !reflect.DeepEqual(wholeOfValue(list), listBefore) || !reflect.DeepEqual(wholeOf(s), typeBefore) {
			t.Errorf("%v became %v, or %v %v", before, wholeOfValue(v), listBefore, wholeOfValue(list))
		}
		for kind := -1; kind <= 15; kind++ {
			o := sparedOptic(kind, depth)
			opticBefore := wholeOfOptic(o)
			callFociFunctions(s, o, v)
			callFociFunctions(listType(s), o, list)
			if !reflect.DeepEqual(wholeOfOptic(o), opticBefore) {
				t.Errorf("%v became %v", opticBefore, wholeOfOptic(o))
			}
		}
	}
	// What is behind the length is not part of the source, nor of the optic.
	v := impl.Value{Kind: 5, Args: []impl.Value{intValue(1), intValue(2), intValue(3)}[:2]}
	s := listType(intType())
	checkFoci(t, s, eachOptic(), v, []impl.Value{intValue(1), intValue(2)})
	checkFoci(t, s, atOptic(2), v, nil)
	checkFoci(t, s, revOptic(), v, []impl.Value{listValue(intValue(2), intValue(1))})
	checkFoci(t, s, mapOptic(addOptic(1)), v, []impl.Value{listValue(intValue(2), intValue(3))})
	checkFoci(t, sparedType(2), sparedOptic(12, 2), sparedValue(2), []impl.Value{sparedValue(2)})
}

func callFociFunctions(s impl.Type, o impl.Optic, v impl.Value) {
	impl.Foci(s, o, v)
	impl.CountFoci(s, o, v)
	impl.FirstFocus(s, o, v)
}

// TestFociAreNew overwrites results, and looks whether anything else has changed.
func TestFociAreNew(t *testing.T) {
	for _, optic := range []string{"id", ".p", ".q", "all", "wrap w", "(all;.a)", "(all;all)", "(.p|.q)", "(id|id)", "(id;id)", "(wrap w;.w)", "(all;wrap w)", "(wrap w;(all;all))", "(all;(all;wrap w))"} {
		v := recValue("p q", sparedValue(2), sparedValue(2))
		checkNewFoci(t, recType("p q", sparedType(2), sparedType(2)), opticOfText(t, optic), v)
	}
	for _, optic := range []string{"id", "each", "at 0", "at 2", "rev", "(rev;each)", "map id", "map wrap w", "(map wrap w;each)", "(map id;(each;all))", "(each;.a)", "(each;wrap w)", "(each;all)", "(at 5|at 1)", "(rev;rev)", "(rev;at 0)"} {
		v := impl.Value{Kind: 5, Args: []impl.Value{sparedValue(2), sparedValue(2), sparedValue(2), {Kind: 99}}[:3]}
		checkNewFoci(t, listType(sparedType(2)), opticOfText(t, optic), v)
	}
	for _, optic := range []string{"id", "?p", "(?q|?p)", "(?p;all)", "(?p;wrap w)", "wrap w"} {
		checkNewFoci(t, sumType("p q", sparedType(2), sparedType(2)), opticOfText(t, optic), tagValue("p", sparedValue(2)))
	}
	for _, optic := range []string{"id", "add 1", "wrap w", "(add 1|id)"} {
		checkNewFoci(t, sparedType(0), opticOfText(t, optic), sparedValue(0))
	}
}

// checkNewFoci overwrites the foci one by one, and then the arguments too.
func checkNewFoci(t *testing.T, s impl.Type, o impl.Optic, v impl.Value) {
	t.Helper()
	before, opticBefore, typeBefore := wholeOfValue(v), wholeOfOptic(o), wholeOf(s)
	var want []impl.Value
	for _, focus := range fociBy(o, v) {
		want = append(want, copiedValue(focus))
	}
	foci, _ := impl.Foci(s, o, v)
	again, _ := impl.Foci(s, o, v)
	first, _ := impl.FirstFocus(s, o, v)
	if len(want) == 0 || !slices.EqualFunc(foci, want, sameValue) {
		t.Fatalf("Foci by %v is %v", o, foci)
	}
	for k, focus := range foci {
		overwriteValue(focus)
		if !slices.EqualFunc(foci[k+1:], want[k+1:], sameValue) {
			t.Errorf("two foci by %v share memory", o)
		}
	}
	for k := range foci[:cap(foci)] {
		foci[:cap(foci)][k] = impl.Value{Kind: 99}
	}
	if !reflect.DeepEqual(wholeOfValue(v), before) || !reflect.DeepEqual(wholeOfOptic(o), opticBefore) || !reflect.DeepEqual(wholeOf(s), typeBefore) {
		t.Errorf("a focus by %v shares memory with an argument", o)
	}
	overwriteValue(first)
	if !reflect.DeepEqual(wholeOfValue(v), before) || !slices.EqualFunc(again, want, sameValue) {
		t.Errorf("a focus by %v shares memory with an argument or with another result", o)
	}
	first, _ = impl.FirstFocus(s, o, v)
	overwriteValue(v)
	overwriteOptic(o)
	overwrite(s)
	if !sameValue(first, want[0]) || !slices.EqualFunc(again, want, sameValue) {
		t.Errorf("a focus changes with an argument")
	}
}

func copiedValue(v impl.Value) impl.Value {
	copied := impl.Value{Kind: v.Kind, N: v.N, Name: v.Name, Labels: slices.Clone(v.Labels)}
	for _, arg := range v.Args {
		copied.Args = append(copied.Args, copiedValue(arg))
	}
	return copied
}

// TestSlicesOfFociAreApart has sources with the same slices in several places, which results must not have.
func TestSlicesOfFociAreApart(t *testing.T) {
	pair := recValue("a b", intValue(1), tagValue("p", boolValue(1)))
	want := copiedValue(pair)
	element := typeOfText(t, "{a:I,b:<p:B>}")
	s, v := listType(element), listValue(pair, pair, pair)
	for _, optic := range []string{"each", "(rev;each)", "(map id;each)", "(each;(wrap w;.w))"} {
		foci, ok := impl.Foci(s, opticOfText(t, optic), v)
		if !ok || len(foci) != 3 {
			t.Fatalf("Foci by %s is %v", optic, foci)
		}
		overwriteValue(foci[0])
		if !sameValue(foci[1], want) || !sameValue(foci[2], want) {
			t.Errorf("two foci by %s share memory", optic)
		}
	}
	for _, optic := range []string{"id", "rev", "map id", "(wrap w;.w)", "(id|id)", "(rev;rev)"} {
		focus, ok := impl.FirstFocus(s, opticOfText(t, optic), v)
		if !ok || len(focus.Args) != 3 {
			t.Fatalf("FirstFocus by %s is %v", optic, focus)
		}
		overwriteValue(focus.Args[0])
		if !sameValue(focus.Args[1], want) || !sameValue(focus.Args[2], want) {
			t.Errorf("two slices of the focus by %s share memory", optic)
		}
	}
	// The record around each of the foci is a new one.
	wrapped, _ := impl.Foci(s, opticOfText(t, "(each;wrap w)"), v)
	list, _ := impl.FirstFocus(s, opticOfText(t, "map wrap w"), v)
	for _, records := range [][]impl.Value{wrapped, list.Args} {
		overwriteValue(records[0])
		if !sameValue(records[1], recValue("w", want)) || !sameValue(records[2], recValue("w", want)) {
			t.Error("two wrapped records share memory")
		}
	}
	if !sameValue(pair, want) {
		t.Error("the argument has changed")
	}
}

func TestFociShareNoStrings(t *testing.T) {
	whole := strings.Repeat("abcd", 2)
	a, b := whole[:2], whole[1:3]
	inner := impl.Type{Kind: 4, Labels: []string{a, b}, Args: ints(2)}
	s := impl.Type{Kind: 3, Labels: []string{a}, Args: []impl.Type{inner}}
	v := impl.Value{Kind: 3, Labels: []string{a}, Args: []impl.Value{tagValue(b, intValue(1))}}
	check := func(s impl.Type, o impl.Optic, v impl.Value) {
		t.Helper()
		foci, ok := impl.Foci(s, o, v)
		first, isThere := impl.FirstFocus(s, o, v)
		if !ok || !isThere {
			t.Fatal(o)
		}
		for _, focus := range append(foci, first) {
			checkNoSharedTexts(t, whole, focus)
		}
	}
	for _, o := range []impl.Optic{idOptic(), fieldOptic(a), {Kind: 5}, wrapOptic(b), thenOptic(wrapOptic(b), wrapOptic(a)), thenOptic(wrapOptic(b), fieldOptic(b)), elseOptic(wrapOptic(a), wrapOptic(a)), thenOptic(fieldOptic(a), thenOptic(caseOptic(b), wrapOptic(b)))} {
		check(s, o, v)
	}
	for _, o := range []impl.Optic{idOptic(), eachOptic(), revOptic(), atOptic(0), mapOptic(idOptic()), mapOptic(wrapOptic(b)), thenOptic(eachOptic(), wrapOptic(b))} {
		check(listType(s), o, listValue(v, v))
	}
}

func checkNoSharedTexts(t *testing.T, whole string, v impl.Value) {
	t.Helper()
	for _, text := range append(slices.Clone(v.Labels), v.Name) {
		if shareMemory(whole, text) {
			t.Errorf("%q is in the memory of an argument", text)
		}
	}
	for _, arg := range v.Args {
		checkNoSharedTexts(t, whole, arg)
	}
}

// TestFociOfHugeArguments has types, optics and values that are deep, wide, larger than memory, or without end.
func TestFociOfHugeArguments(t *testing.T) {
	const long = 100000
	check := func(s impl.Type, o impl.Optic, v impl.Value) {
		t.Helper()
		foci, ok := impl.Foci(s, o, v)
		first, isThere := impl.FirstFocus(s, o, v)
		if ok || len(foci) > 0 || isThere || !isZeroValue(first) || impl.CountFoci(s, o, v) != -1 {
			t.Error("there are foci by a huge argument")
		}
	}
	double := func(x impl.Value) impl.Value { return recValue("a b", x, x) }
	values := []impl.Value{nestValue(intValue(0), 60, double), nestValue(intValue(0), long, double), nestValue(intValue(0), long, listAround), nestValue(intValue(0), long, caseAround), listValue(zeros(long)...), tagValue(strings.Repeat("a", long), intValue(0))}
	types := []impl.Type{nest(intType(), 60, func(x impl.Type) impl.Type { return recType("a b", x, x) }), nest(intType(), long, listType)}
	optics := []impl.Optic{nestOptic(idOptic(), 60, func(o impl.Optic) impl.Optic { return thenOptic(o, o) }), nestOptic(idOptic(), long, mapOptic)}
	for kind := range 15 {
		v, s, o := make([]impl.Value, 1), make([]impl.Type, 1), make([]impl.Optic, 1)
		v[0] = impl.Value{Kind: kind, Args: v}
		s[0] = impl.Type{Kind: kind, Args: s}
		o[0] = impl.Optic{Kind: kind, Args: o}
		values, types, optics = append(values, v[0]), append(types, s[0]), append(optics, o[0])
		labels := []string{"a"}
		values = append(values, impl.Value{Kind: kind, Labels: labels, Args: v}, impl.Value{Kind: kind, Name: "a", Args: v})
		types = append(types, impl.Type{Kind: kind, Labels: labels, Args: s})
		pair := make([]impl.Optic, 2)
		pair[0], pair[1] = impl.Optic{Kind: kind, Args: pair}, idOptic()
		optics = append(optics, pair[0], impl.Optic{Kind: kind, Args: ids(long)})
	}
	small := []impl.Value{{}, intValue(0), listValue(), listValue(intValue(0)), recValue("a", intValue(0)), tagValue("a", intValue(0))}
	plain := []impl.Type{{}, intType(), listType(intType()), recType("a", intType()), sumType("a", intType()), recType("a b", intType(), intType())}
	leaves := []impl.Optic{{}, idOptic(), fieldOptic("a"), caseOptic("a"), eachOptic(), {Kind: 5}, atOptic(0), revOptic(), wrapOptic("w"), mapOptic(idOptic())}
	for _, v := range values {
		for _, s := range append(slices.Clone(types), plain...) {
			for _, o := range leaves {
				check(s, o, v)
				check(listType(s), o, listValue(v))
			}
			for _, o := range optics {
				check(s, o, v)
			}
		}
	}
	for _, v := range small {
		for _, s := range types {
			for _, o := range append(slices.Clone(optics), leaves...) {
				check(s, o, v)
				check(listType(s), o, listValue())
			}
		}
		for _, s := range plain {
			for _, o := range optics {
				check(s, o, v)
				check(s, thenOptic(idOptic(), o), v)
			}
		}
	}
}

func fociResults(s impl.Type, o impl.Optic, v impl.Value) string {
	foci, ok := impl.Foci(s, o, v)
	first, isThere := impl.FirstFocus(s, o, v)
	text := ""
	for _, focus := range append(foci, first) {
		text += valueText(focus) + " "
	}
	return text + fmt.Sprint(impl.CountFoci(s, o, v), ok, isThere)
}

// TestFociDependOnArgumentsOnly calls the functions again after others, after changes of their arguments, and at once.
func TestFociDependOnArgumentsOnly(t *testing.T) {
	s, o := listType(sumType("p q", intType(), intType())), thenOptic(eachOptic(), caseOptic("p"))
	v := listValue(tagValue("p", intValue(1)), tagValue("q", intValue(2)), tagValue("p", intValue(3)))
	for range 3 {
		if got := fociResults(s, o, v); got != "1 3 1 2 true true" {
			t.Errorf("%q", got)
		}
		v.Args[1].Name, v.Args[0].Args[0].N = "p", 7
		if got := fociResults(s, o, v); got != "7 2 3 7 3 true true" {
			t.Errorf("%q after a change of the source", got)
		}
		o.Args[1] = caseOptic("q")
		if got := fociResults(s, o, v); got != "? 0 true false" {
			t.Errorf("%q after a change of the optic", got)
		}
		s.Args[0] = intType()
		if got := fociResults(s, o, v); got != "? -1 false false" {
			t.Errorf("%q after a change of the type", got)
		}
		s.Args[0], o.Args[1] = sumType("p q", intType(), intType()), caseOptic("p")
		v.Args[1].Name, v.Args[0].Args[0].N = "q", 1
	}
	var group sync.WaitGroup
	want := fociResults(s, o, v)
	for range 8 {
		group.Go(func() {
			for range 200 {
				if got := fociResults(s, o, v); got != want {
					t.Error(got)
				}
			}
		})
	}
	group.Wait()
}
