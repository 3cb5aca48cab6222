package tests

import (
	"fmt"
	"math"
	"math/rand"
	"reflect"
	"slices"
	"strings"
	"sync"
	"testing"

	"loop.example/g00592/impl"
)

func allOptic() impl.Optic { return impl.Optic{Kind: 5} }

func notOptic() impl.Optic { return impl.Optic{Kind: 8} }

// changedFoci is the definition of what is put, by the words of chapters 7 and 12, for an optic that fits v: change is
// called for each focus in order, and says what is put there.
func changedFoci(o impl.Optic, v impl.Value, change func(impl.Value) impl.Value) impl.Value {
	switch o.Kind {
	case 1:
		return change(v)
	case 2, 3, 4, 5, 6:
		changed := v
		changed.Args = slices.Clone(v.Args)
		for k, arg := range v.Args {
			if o.Kind == 2 && v.Labels[k] == o.Name || o.Kind == 3 && v.Name == o.Name || o.Kind == 4 || o.Kind == 5 || o.Kind == 6 && k == o.N {
				changed.Args[k] = change(arg)
			}
		}
		return changed
	case 12:
		return changedFoci(o.Args[0], v, func(focus impl.Value) impl.Value { return changedFoci(o.Args[1], focus, change) })
	case 13:
		if len(fociBy(o.Args[0], v)) > 0 {
			return changedFoci(o.Args[0], v, change)
		}
		return changedFoci(o.Args[1], v, change)
	}
	return fociBy(wayBack(o), change(fociBy(o, v)[0]))[0]
}

// wayBack leads from the focus of an isomorphism to the source. Below map it need not be typed: fociBy does not ask.
func wayBack(o impl.Optic) impl.Optic {
	switch o.Kind {
	case 7:
		return addOptic(-o.N)
	case 10:
		return fieldOptic(o.Name)
	case 11:
		return mapOptic(wayBack(o.Args[0]))
	case 12:
		return thenOptic(wayBack(o.Args[1]), wayBack(o.Args[0]))
	}
	return o
}

// putBy is the definition of Put.
func putBy(s impl.Type, o impl.Optic, v impl.Value, list []impl.Value) (impl.Value, bool) {
	focus, kind := typeBy(s, o)
	if kind == 0 || !isOneOf(v, s) || len(fociBy(o, v)) != len(list) {
		return impl.Value{}, false
	}
	for _, x := range list {
		if !isOneOf(x, focus) {
			return impl.Value{}, false
		}
	}
	place := 0
	next := func(impl.Value) impl.Value {
		place++
		return list[place-1]
	}
	result := changedFoci(o, v, next)
	if nodesOfValue(result) > mostValue {
		return impl.Value{}, false
	}
	return result, true
}

func areOneOf(list []impl.Value, s impl.Type) bool {
	return !slices.ContainsFunc(list, func(v impl.Value) bool { return !isOneOf(v, s) })
}

// checkPut checks both functions where Put does not fail.
func checkPut(t *testing.T, s impl.Type, o impl.Optic, v impl.Value, list []impl.Value, want impl.Value) {
	t.Helper()
	if got, ok := impl.Put(s, o, v, list); !ok || !sameValue(got, want) {
		t.Errorf("Put(%v, %v, %v, %v) is %v, %v, want %v", s, o, v, list, got, ok, want)
	}
	isOther := func(x impl.Value) bool { return !sameValue(x, list[0]) }
	if len(list) > 0 && !slices.ContainsFunc(list, isOther) {
		if got, ok := impl.PutOne(s, o, v, list[0]); !ok || !sameValue(got, want) {
			t.Errorf("PutOne(%v, %v, %v, %v) is %v, %v, want %v", s, o, v, list[0], got, ok, want)
		}
	}
	if len(list) == 0 {
		for _, x := range []impl.Value{{}, intValue(0), boolValue(1), tagValue("", v), v, {Kind: 2, N: 2}} {
			if got, ok := impl.PutOne(s, o, v, x); !ok || !sameValue(got, v) || !sameValue(got, want) {
				t.Errorf("PutOne(%v, %v, %v, %v) is %v, %v without foci", s, o, v, x, got, ok)
			}
		}
	}
	checkPuttingTwice(t, s, o, v, list, want)
}

// checkPuttingTwice is promise 12 for one optic and one list, which is known to lead to put.
func checkPuttingTwice(t *testing.T, s impl.Type, o impl.Optic, v impl.Value, list []impl.Value, put impl.Value) {
	t.Helper()
	if foci, ok := impl.Foci(s, o, put); !ok || !slices.EqualFunc(foci, list, sameValue) {
		t.Errorf("after Put(%v, %v, %v, %v) the foci are %v, %v", s, o, v, list, foci, ok)
	}
	if again, ok := impl.Put(s, o, put, list); !ok || !sameValue(again, put) {
		t.Errorf("Put(%v, %v, %v, %v) twice leads to %v, %v, not to %v", s, o, v, list, again, ok, put)
	}
	old, ok := impl.Foci(s, o, v)
	focus, _, _ := impl.OpticType(s, o)
	if !ok || !areOneOf(old, focus) {
		return
	}
	for _, source := range []impl.Value{v, put} {
		if got, ok := impl.Put(s, o, source, old); !ok || !sameValue(got, v) {
			t.Errorf("Put(%v, %v, %v) of the foci of %v leads to %v, %v", s, o, source, v, got, ok)
		}
	}
}

// checkNoPut checks that Put fails, and PutOne where the list is one that PutOne puts.
func checkNoPut(t *testing.T, s impl.Type, o impl.Optic, v impl.Value, list []impl.Value) {
	t.Helper()
	if got, ok := impl.Put(s, o, v, list); ok || !isZeroValue(got) {
		t.Errorf("Put(%v, %v, %v, %v) is %v, %v", s, o, v, list, got, ok)
	}
	isOther := func(x impl.Value) bool { return !sameValue(x, list[0]) }
	count := impl.CountFoci(s, o, v)
	if len(list) > 0 && (count < 0 || count == len(list)) && !slices.ContainsFunc(list, isOther) {
		if got, ok := impl.PutOne(s, o, v, list[0]); ok || !isZeroValue(got) {
			t.Errorf("PutOne(%v, %v, %v, %v) is %v, %v", s, o, v, list[0], got, ok)
		}
	}
}

// checkPutWithin checks what is put by an optic, and where the optic is a part of others. Where these have the source of
// the optic several times, the foci that v has already are put into every other one.
func checkPutWithin(t *testing.T, s impl.Type, o impl.Optic, v impl.Value, list []impl.Value, want impl.Value) {
	t.Helper()
	old := fociBy(o, v)
	both, reversed := slices.Concat(list, old), slices.Concat(old, list)
	checkPut(t, s, o, v, list, want)
	checkPut(t, s, thenOptic(idOptic(), o), v, list, want)
	checkPut(t, s, thenOptic(o, idOptic()), v, list, want)
	checkPut(t, s, thenOptic(wrapOptic("w"), thenOptic(fieldOptic("w"), o)), v, list, want)
	checkPut(t, recType("k v", boolType(), s), thenOptic(fieldOptic("v"), o), recValue("k v", boolValue(1), v), list, recValue("k v", boolValue(1), want))
	pair, record := recType("k v", s, s), recValue("k v", v, v)
	checkPut(t, pair, thenOptic(allOptic(), o), record, both, recValue("k v", want, v))
	checkPut(t, pair, thenOptic(allOptic(), o), record, reversed, recValue("k v", v, want))
	checkPut(t, pair, thenOptic(fieldOptic("k"), o), record, list, recValue("k v", want, v))
	choice := sumType("p q", boolType(), s)
	checkPut(t, choice, thenOptic(caseOptic("q"), o), tagValue("q", v), list, tagValue("q", want))
	checkPut(t, choice, thenOptic(caseOptic("q"), o), tagValue("p", boolValue(1)), nil, tagValue("p", boolValue(1)))
	each := thenOptic(eachOptic(), o)
	checkPut(t, listType(s), each, listValue(), nil, listValue())
	checkPut(t, listType(s), each, listValue(v), list, listValue(want))
	checkPut(t, listType(s), each, listValue(v, v, v), slices.Concat(reversed, old), listValue(v, want, v))
	checkPut(t, listType(s), each, listValue(v, v, v), slices.Concat(both, list), listValue(want, v, want))
	checkPut(t, listType(s), thenOptic(revOptic(), each), listValue(v, v, v), slices.Concat(both, old), listValue(v, v, want))
	checkPut(t, listType(s), thenOptic(atOptic(1), o), listValue(v, v, v), list, listValue(v, want, v))
	checkPut(t, listType(s), thenOptic(atOptic(1), o), listValue(v), nil, listValue(v))
	_, kind := typeBy(s, o)
	if kind == 1 {
		for _, source := range []impl.Value{listValue(v, v), listValue(), listValue(want)} {
			checkPut(t, listType(s), mapOptic(o), source, []impl.Value{listValue(list[0], old[0])}, listValue(want, v))
			checkPut(t, listType(s), mapOptic(o), source, []impl.Value{listValue(old[0], list[0], list[0])}, listValue(v, want, want))
			checkPut(t, listType(s), mapOptic(o), source, []impl.Value{listValue()}, listValue())
		}
	}
	if kind != 5 {
		checkPut(t, s, elseOptic(o, o), v, list, want)
	}
	checkOtherLists(t, s, o, v, list)
}

// checkOtherLists has lists with too few elements, with too many, and with one of another type.
func checkOtherLists(t *testing.T, s impl.Type, o impl.Optic, v impl.Value, list []impl.Value) {
	t.Helper()
	focus, _ := typeBy(s, o)
	for count := range len(list) + 4 {
		if count != len(list) {
			checkNoPut(t, s, o, v, slices.Repeat([]impl.Value{defaultOf(focus)}, count))
			checkNoPut(t, s, o, v, slices.Concat(list, list, list, []impl.Value{defaultOf(focus)})[:min(count, 3*len(list)+1)])
		}
	}
	for k := range list {
		for _, x := range []impl.Value{{}, listValue(boolValue(3)), recValue("a b c d", intValue(0), boolValue(0), intValue(0), tagValue("x", intValue(0))), recValue("w", list[k]), tagValue("w", list[k]), {Kind: list[k].Kind, N: 2, Labels: []string{"a"}}} {
			changed := slices.Clone(list)
			changed[k] = x
			checkNoPut(t, s, o, v, changed)
		}
	}
}

// A putRow has the list that is put as a text of its own, and "same" where nothing changes.
type putRow struct {
	source string
	value  string
	optic  string
	list   string
	result string
}

func checkPutRows(t *testing.T, rows []putRow) {
	t.Helper()
	for _, row := range rows {
		s, v, o, list := typeOfText(t, row.source), valueOfText(t, row.value), opticOfText(t, row.optic), valueOfText(t, row.list).Args
		want := v
		if row.result != "same" {
			want = valueOfText(t, row.result)
		}
		if defined, ok := putBy(s, o, v, list); !ok || !sameValue(defined, want) {
			t.Errorf("by the definition Put of %v is %v, %v", row, defined, ok)
		}
		checkPutWithin(t, s, o, v, list, want)
	}
}

func TestPutIntoParts(t *testing.T) {
	checkPutRows(t, []putRow{
		{"I", "5", "id", "[7]", "7"}, {"B", "#f", "id", "[#t]", "#t"}, {"[I]", "[]", "id", "[[1,2]]", "[1,2]"}, {"[I]", "[1,2]", "id", "[[]]", "[]"}, {"{a:I,b:[B]}", "{a=1,b=[#t]}", "id", "[{a=2,b=[]}]", "{a=2,b=[]}"}, {"<p:I,q:B>", "<q #t>", "id", "[<p 3>]", "<p 3>"}, {"I", "5", "id", "[5]", "same"},

		// Each field of a record, the others as they were.
		{"{a:I}", "{a=7}", ".a", "[8]", "{a=8}"}, {"{a:I,b:B,c:[I],d:<p:I>}", "{a=1,b=#t,c=[2,3],d=<p 4>}", ".a", "[9]", "{a=9,b=#t,c=[2,3],d=<p 4>}"}, {"{a:I,b:B,c:[I],d:<p:I>}", "{a=1,b=#t,c=[2,3],d=<p 4>}", ".b", "[#f]", "{a=1,b=#f,c=[2,3],d=<p 4>}"}, {"{a:I,b:B,c:[I],d:<p:I>}", "{a=1,b=#t,c=[2,3],d=<p 4>}", ".c", "[[5]]", "{a=1,b=#t,c=[5],d=<p 4>}"}, {"{a:I,b:B,c:[I],d:<p:I>}", "{a=1,b=#t,c=[2,3],d=<p 4>}", ".d", "[<p 0>]", "{a=1,b=#t,c=[2,3],d=<p 0>}"},
		{"{a:I,aa:I,ab:I}", "{a=1,aa=2,ab=3}", ".a", "[9]", "{a=9,aa=2,ab=3}"}, {"{a:I,aa:I,ab:I}", "{a=1,aa=2,ab=3}", ".aa", "[9]", "{a=1,aa=9,ab=3}"}, {"{a:I,aa:I,ab:I}", "{a=1,aa=2,ab=3}", ".ab", "[9]", "{a=1,aa=2,ab=9}"}, {"{a:{a:[I]}}", "{a={a=[5]}}", ".a", "[{a=[]}]", "{a={a=[]}}"}, {"{a:I,b:I}", "{a=1,b=1}", ".b", "[1]", "same"},

		// The case that the source is, and another one.
		{"<p:I,q:B>", "<p 5>", "?p", "[6]", "<p 6>"}, {"<p:I,q:B>", "<p 5>", "?q", "[]", "same"}, {"<p:I,q:B>", "<q #t>", "?p", "[]", "same"}, {"<p:I,q:B>", "<q #t>", "?q", "[#f]", "<q #f>"}, {"<p:I>", "<p 0>", "?p", "[1]", "<p 1>"}, {"<p:I,q:I>", "<q 1>", "?p", "[]", "same"}, {"<p:I,pp:I>", "<pp 1>", "?p", "[]", "same"}, {"<p:I,pp:I>", "<pp 1>", "?pp", "[2]", "<pp 2>"},
		{"<a:I,b:B,c:[I],d:{x:I}>", "<d {x=3}>", "?d", "[{x=4}]", "<d {x=4}>"}, {"<a:I,b:B,c:[I],d:{x:I}>", "<d {x=3}>", "?c", "[]", "same"}, {"<a:I,b:B,c:[I],d:{x:I}>", "<c [1,2]>", "?c", "[[]]", "<c []>"}, {"<p:<p:I,q:I>,q:I>", "<p <q 4>>", "?p", "[<p 5>]", "<p <p 5>>"}, {"<p:<p:I,q:I>,q:I>", "<p <q 4>>", "?q", "[]", "same"},

		// None, one and several elements or fields.
		{"[I]", "[]", "each", "[]", "same"}, {"[I]", "[5]", "each", "[7]", "[7]"}, {"[I]", "[5,6]", "each", "[8,7]", "[8,7]"}, {"[I]", "[3,1,2,3,1]", "each", "[1,2,3,4,5]", "[1,2,3,4,5]"}, {"[B]", "[#t,#f,#t]", "each", "[#t,#t,#t]", "[#t,#t,#t]"}, {"[[I]]", "[[1,2],[],[3]]", "each", "[[],[4,5,6],[7]]", "[[],[4,5,6],[7]]"}, {"[{a:I}]", "[{a=1},{a=2}]", "each", "[{a=3},{a=4}]", "[{a=3},{a=4}]"}, {"[<p:I,q:B>]", "[<p 1>,<q #t>,<p 2>]", "each", "[<q #f>,<q #t>,<p 3>]", "[<q #f>,<q #t>,<p 3>]"},
		{"{a:I}", "{a=7}", "all", "[8]", "{a=8}"}, {"{a:I,b:I}", "{a=2,b=1}", "all", "[3,4]", "{a=3,b=4}"}, {"{a:B,b:B,c:B}", "{a=#t,b=#f,c=#t}", "all", "[#f,#f,#t]", "{a=#f,b=#f,c=#t}"}, {"{a:I,b:I,c:I,d:I}", "{a=4,b=2,c=3,d=1}", "all", "[5,6,7,8]", "{a=5,b=6,c=7,d=8}"}, {"{a:[I],b:[I]}", "{a=[1],b=[]}", "all", "[[],[2,3]]", "{a=[],b=[2,3]}"}, {"{a:<p:I,q:B>,b:<p:I,q:B>}", "{a=<q #t>,b=<p 1>}", "all", "[<p 5>,<p 6>]", "{a=<p 5>,b=<p 6>}"},

		// A list with fewer elements than N, with N, with N + 1 and with more.
		{"[I]", "[]", "at 0", "[]", "same"}, {"[I]", "[4]", "at 0", "[9]", "[9]"}, {"[I]", "[4,5]", "at 0", "[9]", "[9,5]"}, {"[I]", "[4,5,6]", "at 0", "[9]", "[9,5,6]"},
		{"[I]", "[]", "at 1", "[]", "same"}, {"[I]", "[4]", "at 1", "[]", "same"}, {"[I]", "[4,5]", "at 1", "[9]", "[4,9]"}, {"[I]", "[4,5,6]", "at 1", "[9]", "[4,9,6]"}, {"[I]", "[4,5,6,7]", "at 1", "[9]", "[4,9,6,7]"},
		{"[I]", "[4]", "at 2", "[]", "same"}, {"[I]", "[4,5]", "at 2", "[]", "same"}, {"[I]", "[4,5,6]", "at 2", "[9]", "[4,5,9]"}, {"[I]", "[4,5,6,7]", "at 2", "[9]", "[4,5,9,7]"}, {"[I]", "[4,5,6,7]", "at 3", "[9]", "[4,5,6,9]"}, {"[I]", "[4,5,6,7]", "at 4", "[]", "same"},
		{"[I]", "[4]", "at 1000", "[]", "same"}, {"[[I]]", "[[1],[2,3]]", "at 1", "[[]]", "[[1],[]]"}, {"[[I]]", "[[1,2],[3]]", "at 2", "[]", "same"}, {"[{a:B}]", "[{a=#t}]", "at 0", "[{a=#f}]", "[{a=#f}]"},
	})
}

func TestPutIntoIsomorphisms(t *testing.T) {
	checkPutRows(t, []putRow{
		{"I", "5", "add 3", "[8]", "same"}, {"I", "5", "add 3", "[0]", "-3"}, {"I", "5", "add 0", "[6]", "6"}, {"I", "5", "add -7", "[1]", "8"}, {"I", "0", "add 1000", "[0]", "-1000"}, {"I", "0", "add -1000", "[0]", "1000"}, {"I", "-999999999999", "add 1", "[999999999999]", "999999999998"},
		{"B", "#t", "not", "[#t]", "#f"}, {"B", "#t", "not", "[#f]", "#t"}, {"B", "#f", "not", "[#t]", "#f"}, {"B", "#f", "not", "[#f]", "#t"},
		{"[I]", "[]", "rev", "[[1,2]]", "[2,1]"}, {"[I]", "[1,2]", "rev", "[[]]", "[]"}, {"[I]", "[1]", "rev", "[[5]]", "[5]"}, {"[I]", "[3,1,2]", "rev", "[[1,2,3,4]]", "[4,3,2,1]"}, {"[[I]]", "[[1,2],[3]]", "rev", "[[[4,5],[6]]]", "[[6],[4,5]]"},
		{"I", "5", "wrap w", "[{w=6}]", "6"}, {"B", "#t", "wrap abcd", "[{abcd=#f}]", "#f"}, {"[I]", "[]", "wrap w", "[{w=[1]}]", "[1]"}, {"{a:I}", "{a=1}", "wrap a", "[{a={a=2}}]", "{a=2}"}, {"<p:I,q:B>", "<q #t>", "wrap p", "[{p=<p 3>}]", "<p 3>"},

		// The list that is put may have any length.
		{"[I]", "[]", "map add 1", "[[5,6]]", "[4,5]"}, {"[I]", "[5]", "map add 1", "[[]]", "[]"}, {"[I]", "[3,1,2]", "map add -1", "[[0,0,0]]", "[1,1,1]"}, {"[I]", "[3,1,2]", "map id", "[[7,8]]", "[7,8]"}, {"[B]", "[#t,#f]", "map not", "[[#t,#t,#f]]", "[#f,#f,#t]"}, {"[I]", "[1,2]", "map wrap w", "[[{w=3},{w=4},{w=5}]]", "[3,4,5]"},
		{"[[I]]", "[[1,2],[],[3,4,5]]", "map rev", "[[[1,2,3],[4,5]]]", "[[3,2,1],[5,4]]"}, {"[[I]]", "[]", "map rev", "[[[1,2]]]", "[[2,1]]"}, {"[[I]]", "[[]]", "map rev", "[[]]", "[]"},

		// One of them within another one, or behind it.
		{"[[I]]", "[[1,2],[],[3]]", "map map add 10", "[[[1],[],[2,3]]]", "[[-9],[],[-8,-7]]"}, {"[[B]]", "[[#t],[#f,#f]]", "map map not", "[[[#t,#f]]]", "[[#f,#t]]"}, {"[[[I]]]", "[[[1,2]],[[3,4],[5]]]", "map map rev", "[[[[1,2],[3,4,5]],[]]]", "[[[2,1],[5,4,3]],[]]"}, {"[[I]]", "[[1],[2,3]]", "map map wrap w", "[[[{w=4},{w=5}],[]]]", "[[4,5],[]]"}, {"[[I]]", "[[1],[2,3]]", "map wrap w", "[[{w=[4,5]},{w=[]}]]", "[[4,5],[]]"},
		{"[I]", "[1,2]", "map (add 1;wrap w)", "[[{w=5}]]", "[4]"}, {"[I]", "[1,2]", "map (wrap a;wrap b)", "[[{b={a=5}},{b={a=6}}]]", "[5,6]"}, {"[[I]]", "[[1,2],[3]]", "map (rev;map add 1)", "[[[1,2,3]]]", "[[2,1,0]]"}, {"[[I]]", "[[1,2],[3]]", "(map rev;rev)", "[[[1,2],[3,4,5]]]", "[[5,4,3],[2,1]]"}, {"[[I]]", "[[1,2],[3]]", "(rev;map rev)", "[[[1,2],[3,4,5]]]", "[[5,4,3],[2,1]]"}, {"[I]", "[1,2]", "(map (wrap a;wrap b);rev)", "[[{b={a=5}},{b={a=6}}]]", "[6,5]"},
		{"I", "5", "(wrap a;wrap b)", "[{b={a=7}}]", "7"}, {"I", "5", "(wrap w;wrap w)", "[{w={w=7}}]", "7"}, {"I", "5", "(add 1;(wrap b;wrap a))", "[{a={b=7}}]", "6"}, {"I", "5", "((add 1;wrap b);wrap a)", "[{a={b=7}}]", "6"}, {"[I]", "[1,2]", "(wrap a;(wrap b;wrap c))", "[{c={b={a=[3]}}}]", "[3]"},
		{"[I]", "[1,2,3]", "(rev;rev)", "[[4,5]]", "[4,5]"}, {"B", "#t", "(not;not)", "[#f]", "#f"}, {"B", "#t", "(not;(not;not))", "[#t]", "#f"}, {"I", "5", "(add 1000;add 1000)", "[0]", "-2000"}, {"I", "5", "(add 3;add -3)", "[7]", "7"}, {"[I]", "[1,2]", "(rev;wrap w)", "[{w=[3,4]}]", "[4,3]"}, {"[I]", "[1,2]", "(rev;map add 1)", "[[10,20,30]]", "[29,19,9]"},
	})
}

func TestPutIntoCompositions(t *testing.T) {
	checkPutRows(t, []putRow{
		// The first part has no focus.
		{"<p:{a:I},q:B>", "<q #t>", "(?p;.a)", "[]", "same"}, {"[[I]]", "[]", "(each;each)", "[]", "same"}, {"[[I]]", "[[1]]", "(at 1;each)", "[]", "same"}, {"[I]", "[]", "(at 0;add 1)", "[]", "same"}, {"<p:I,q:I>", "<q 1>", "(?p;wrap w)", "[]", "same"}, {"[<p:I>]", "[]", "(each;?p)", "[]", "same"}, {"<p:[I],q:[I]>", "<q [1,2]>", "(?p;each)", "[]", "same"}, {"[I]", "[]", "(rev;each)", "[]", "same"}, {"[I]", "[]", "(map wrap w;each)", "[]", "same"},
		// One focus.
		{"{a:{b:I}}", "{a={b=5}}", "(.a;.b)", "[6]", "{a={b=6}}"}, {"{a:{b:I,c:B},d:I}", "{a={b=5,c=#t},d=7}", "(.a;.b)", "[6]", "{a={b=6,c=#t},d=7}"}, {"{a:<p:I,q:B>}", "{a=<p 5>}", "(.a;?p)", "[6]", "{a=<p 6>}"}, {"{a:<p:I,q:B>}", "{a=<p 5>}", "(.a;?q)", "[]", "same"}, {"{a:[I]}", "{a=[3,4]}", "(.a;each)", "[5,6]", "{a=[5,6]}"}, {"{a:[I]}", "{a=[3,4]}", "(.a;at 1)", "[5]", "{a=[3,5]}"}, {"{a:[I]}", "{a=[3,4]}", "(.a;at 2)", "[]", "same"}, {"{a:I}", "{a=1}", "(.a;add 1)", "[5]", "{a=4}"}, {"<p:<q:I,r:I>>", "<p <r 3>>", "(?p;?r)", "[4]", "<p <r 4>>"}, {"<p:<q:I,r:I>>", "<p <r 3>>", "(?p;?q)", "[]", "same"}, {"I", "5", "(wrap a;.a)", "[6]", "6"}, {"I", "5", "(wrap a;all)", "[6]", "6"},
		{"[I]", "[1,2,3]", "(rev;each)", "[4,5,6]", "[6,5,4]"}, {"[I]", "[1,2,3]", "(rev;at 0)", "[9]", "[1,2,9]"}, {"[I]", "[1,2,3]", "(rev;at 2)", "[9]", "[9,2,3]"}, {"[I]", "[1,2,3]", "(rev;at 3)", "[]", "same"}, {"[I]", "[1,2]", "(map add 10;each)", "[10,30]", "[0,20]"}, {"[I]", "[1,2]", "(map add 10;at 1)", "[30]", "[1,20]"}, {"[I]", "[1,2]", "(map wrap w;(each;.w))", "[3,4]", "[3,4]"}, {"[I]", "[1,2]", "(map wrap w;(at 1;.w))", "[4]", "[1,4]"}, {"{a:I,b:I}", "{a=1,b=2}", "(wrap w;(.w;.b))", "[5]", "{a=1,b=5}"},
		// Several.
		{"[I]", "[3,1,2]", "(each;add 10)", "[10,20,30]", "[0,10,20]"}, {"[I]", "[3,1]", "(each;wrap w)", "[{w=5},{w=6}]", "[5,6]"}, {"[{a:I,b:B}]", "[{a=1,b=#t},{a=2,b=#f}]", "(each;.b)", "[#f,#t]", "[{a=1,b=#f},{a=2,b=#t}]"}, {"{a:I,b:I}", "{a=1,b=2}", "(all;add 10)", "[0,5]", "{a=-10,b=-5}"}, {"[[I]]", "[[1,2],[3]]", "(each;each)", "[7,8,9]", "[[7,8],[9]]"}, {"[[I]]", "[[1,2],[3,4]]", "(each;rev)", "[[5,6,7],[8,9]]", "[[7,6,5],[9,8]]"}, {"{a:[I],b:[I]}", "{a=[1,2],b=[3]}", "(all;each)", "[7,8,9]", "{a=[7,8],b=[9]}"}, {"{a:{x:I,y:I},b:{x:I,y:I}}", "{a={x=1,y=2},b={x=3,y=4}}", "(all;all)", "[5,6,7,8]", "{a={x=5,y=6},b={x=7,y=8}}"}, {"[{a:I,b:I}]", "[{a=1,b=2},{a=3,b=4}]", "(each;all)", "[5,6,7,8]", "[{a=5,b=6},{a=7,b=8}]"},
		// The second part has none, one and several in some of them, or none in all.
		{"[[I]]", "[[],[1,2],[],[3],[4,5,6],[]]", "(each;each)", "[10,20,30,40,50,60]", "[[],[10,20],[],[30],[40,50,60],[]]"}, {"[[I]]", "[[1,2],[],[3]]", "(each;each)", "[7,8,9]", "[[7,8],[],[9]]"}, {"[[I]]", "[[1],[2,3,4]]", "(each;each)", "[7,8,9,10]", "[[7],[8,9,10]]"}, {"[[I]]", "[[],[]]", "(each;each)", "[]", "same"}, {"[[I]]", "[[],[],[1]]", "(rev;(each;each))", "[7]", "[[],[],[7]]"}, {"[[I]]", "[[1,2],[],[3]]", "(rev;(each;each))", "[7,8,9]", "[[8,9],[],[7]]"}, {"[[I]]", "[[1,2],[3]]", "(map rev;(each;each))", "[7,8,9]", "[[8,7],[9]]"},
		{"[<p:I,q:B>]", "[<p 5>,<q #t>,<p 7>]", "(each;?p)", "[8,9]", "[<p 8>,<q #t>,<p 9>]"}, {"[<p:I,q:B>]", "[<p 5>,<q #t>,<p 7>]", "(each;?q)", "[#f]", "[<p 5>,<q #f>,<p 7>]"}, {"[<p:I,q:B>]", "[<q #t>,<p 5>,<q #f>]", "(each;?p)", "[8]", "[<q #t>,<p 8>,<q #f>]"}, {"[<p:I,q:B>]", "[<q #f>,<q #t>]", "(each;?p)", "[]", "same"}, {"[[I]]", "[[1,2],[],[3]]", "(each;at 0)", "[8,9]", "[[8,2],[],[9]]"}, {"[[I]]", "[[1,2],[],[3],[4,5]]", "(each;at 1)", "[8,9]", "[[1,8],[],[3],[4,9]]"}, {"[[I]]", "[[1],[2]]", "(each;at 1)", "[]", "same"}, {"{a:<p:I,q:I>,b:<p:I,q:I>}", "{a=<p 1>,b=<q 2>}", "(all;?q)", "[5]", "{a=<p 1>,b=<q 5>}"}, {"{a:[I],b:[I],c:[I]}", "{a=[1,2],b=[],c=[3]}", "(all;each)", "[7,8,9]", "{a=[7,8],b=[],c=[9]}"},
		{"[<p:[I],q:{a:I,b:I}>]", "[<p [1,2]>,<q {a=3,b=4}>,<p []>,<p [5]>]", "(each;(?p;each))", "[7,8,9]", "[<p [7,8]>,<q {a=3,b=4}>,<p []>,<p [9]>]"}, {"[<p:[I],q:{a:I,b:I}>]", "[<p [1,2]>,<q {a=3,b=4}>,<p []>,<q {a=5,b=6}>]", "(each;(?q;all))", "[1,2,3,4]", "[<p [1,2]>,<q {a=1,b=2}>,<p []>,<q {a=3,b=4}>]"}, {"[<p:[I],q:[I]>]", "[<p [1]>,<q [2,3]>,<p []>,<q [4]>]", "(each;((?p|?q);each))", "[6,7,8,9]", "[<p [6]>,<q [7,8]>,<p []>,<q [9]>]"},
		// Three parts, in both ways.
		{"[[[I]]]", "[[[1],[]],[],[[2,3]]]", "(each;(each;each))", "[7,8,9]", "[[[7],[]],[],[[8,9]]]"}, {"[[[I]]]", "[[[1],[]],[],[[2,3]]]", "((each;each);each)", "[7,8,9]", "[[[7],[]],[],[[8,9]]]"}, {"{a:I,b:[<p:I,q:B>]}", "{a=1,b=[<p 5>,<q #t>,<p 7>]}", "(.b;(each;?p))", "[1,2]", "{a=1,b=[<p 1>,<q #t>,<p 2>]}"}, {"{a:I,b:[<p:I,q:B>]}", "{a=1,b=[<p 5>,<q #t>,<p 7>]}", "((.b;each);?p)", "[1,2]", "{a=1,b=[<p 1>,<q #t>,<p 2>]}"}, {"[[I]]", "[[1,2],[3]]", "((each;rev);each)", "[7,8,9]", "[[8,7],[9]]"}, {"[[I]]", "[[1,2],[3]]", "(each;(rev;each))", "[7,8,9]", "[[8,7],[9]]"}, {"[[I]]", "[[1,2],[3]]", "((each;map wrap w);(each;.w))", "[7,8,9]", "[[7,8],[9]]"},
	})
}

func TestPutIntoChoices(t *testing.T) {
	checkPutRows(t, []putRow{
		// The first part has a focus: the second part, which may have one too, is not used.
		{"<p:I,q:I>", "<p 5>", "(?p|?q)", "[6]", "<p 6>"}, {"{a:I,b:I}", "{a=1,b=2}", "(.a|.b)", "[6]", "{a=6,b=2}"}, {"{a:I,b:I}", "{a=1,b=2}", "(.b|.a)", "[6]", "{a=1,b=6}"}, {"I", "5", "(add 1|add 2)", "[0]", "-1"}, {"I", "5", "(id|add 2)", "[0]", "0"}, {"[I]", "[4,5]", "(at 0|at 1)", "[6]", "[6,5]"}, {"[I]", "[4,5]", "(at 1|at 0)", "[6]", "[4,6]"}, {"[I]", "[4,5]", "((rev;at 0)|at 0)", "[6]", "[4,6]"}, {"B", "#t", "(not|id)", "[#t]", "#f"}, {"[I]", "[1,2]", "(rev|id)", "[[3,4]]", "[4,3]"}, {"[I]", "[1,2]", "(map add 1|rev)", "[[3,4,5]]", "[2,3,4]"}, {"I", "5", "(wrap w|wrap w)", "[{w=6}]", "6"},
		// The first part has none, the second one has one.
		{"<p:I,q:I>", "<q 5>", "(?p|?q)", "[6]", "<q 6>"}, {"<p:{a:I,b:I},q:I>", "<q 9>", "((?p;.b)|?q)", "[3]", "<q 3>"}, {"<p:{a:I,b:I},q:I>", "<p {a=1,b=2}>", "((?p;.b)|?q)", "[3]", "<p {a=1,b=3}>"}, {"[I]", "[4]", "(at 1|at 0)", "[6]", "[6]"}, {"[I]", "[4,5]", "(at 2|at 1)", "[6]", "[4,6]"}, {"{a:[I],b:I}", "{a=[],b=7}", "((.a;at 0)|.b)", "[6]", "{a=[],b=6}"}, {"{a:[I],b:I}", "{a=[5],b=7}", "((.a;at 0)|.b)", "[6]", "{a=[6],b=7}"}, {"{a:<p:I,q:B>,b:I}", "{a=<q #t>,b=7}", "((.a;?p)|.b)", "[6]", "{a=<q #t>,b=6}"}, {"<p:I,q:I>", "<q 5>", "((?p;add 1)|(?q;add 2))", "[6]", "<q 4>"}, {"<p:I,q:I,r:B>", "<q 5>", "((?p;wrap w)|(?q;wrap w))", "[{w=6}]", "<q 6>"},
		// Neither has one.
		{"<p:I,q:I,r:B>", "<r #t>", "(?p|?q)", "[]", "same"}, {"[I]", "[]", "(at 0|at 1)", "[]", "same"}, {"[I]", "[4]", "(at 1|at 2)", "[]", "same"}, {"{a:[I],b:[I]}", "{a=[],b=[]}", "((.a;at 0)|(.b;at 0))", "[]", "same"}, {"<p:I,q:I>", "<q 1>", "(?p|?p)", "[]", "same"},
		// One choice within another one, ahead of or behind a part, and for each of several foci.
		{"<p:I,q:I,r:I,s:B>", "<p 1>", "((?p|?q)|?r)", "[6]", "<p 6>"}, {"<p:I,q:I,r:I,s:B>", "<q 2>", "((?p|?q)|?r)", "[6]", "<q 6>"}, {"<p:I,q:I,r:I,s:B>", "<r 3>", "((?p|?q)|?r)", "[6]", "<r 6>"}, {"<p:I,q:I,r:I,s:B>", "<s #t>", "((?p|?q)|?r)", "[]", "same"}, {"<p:I,q:I,r:I,s:B>", "<q 2>", "(?p|(?q|?r))", "[6]", "<q 6>"}, {"<p:I,q:I,r:I,s:B>", "<r 3>", "(?p|(?q|?r))", "[6]", "<r 6>"}, {"<p:I,q:I,r:I,s:B>", "<s #t>", "(?p|(?q|?r))", "[]", "same"},
		{"[<p:I,q:I>]", "[<p 1>,<q 2>,<p 3>]", "(each;(?p|?q))", "[7,8,9]", "[<p 7>,<q 8>,<p 9>]"}, {"[<p:I,q:I,r:B>]", "[<r #t>,<q 2>,<r #f>,<p 3>]", "(each;(?p|?q))", "[8,9]", "[<r #t>,<q 8>,<r #f>,<p 9>]"}, {"<p:{a:I},q:{a:I}>", "<q {a=4}>", "((?p|?q);.a)", "[6]", "<q {a=6}>"}, {"<p:[I],q:[I]>", "<q [1,2]>", "((?p|?q);each)", "[8,9]", "<q [8,9]>"}, {"<p:[I],q:[I]>", "<p []>", "((?p|?q);each)", "[]", "same"}, {"<p:[I],q:I>", "<p []>", "((?p;at 0)|?q)", "[]", "same"}, {"<p:I,q:I>", "<q 1>", "((?p|?q);add 1)", "[6]", "<q 5>"}, {"[[I]]", "[[1,2],[3],[]]", "(each;(at 1|at 0))", "[8,9]", "[[1,8],[9],[]]"},
	})
}

// TestPutDifferencesWrapAround has integers at both ends of those that there are.
func TestPutDifferencesWrapAround(t *testing.T) {
	rows := []struct {
		add  int
		put  int
		want int
	}{
		{1, math.MinInt, math.MaxInt}, {1000, math.MinInt, math.MaxInt - 999}, {1000, math.MinInt + 999, math.MaxInt}, {1000, math.MinInt + 1000, math.MinInt}, {0, math.MinInt, math.MinInt}, {-1, math.MinInt, math.MinInt + 1},
		{-1, math.MaxInt, math.MinInt}, {-1000, math.MaxInt, math.MinInt + 999}, {-1000, math.MaxInt - 999, math.MinInt}, {-1000, math.MaxInt - 1000, math.MaxInt}, {0, math.MaxInt, math.MaxInt}, {1, math.MaxInt, math.MaxInt - 1},
		{1, 1 << 31, 1<<31 - 1}, {-1, 1<<31 - 1, 1 << 31}, {1, -1 << 31, -1<<31 - 1}, {2, 1<<53 + 3, 1<<53 + 1},
	}
	for _, row := range rows {
		for _, n := range []int{0, row.put, math.MaxInt, math.MinInt} {
			checkPutWithin(t, intType(), addOptic(row.add), intValue(n), []impl.Value{intValue(row.put)}, intValue(row.want))
		}
		twice := thenOptic(addOptic(row.add), addOptic(row.add))
		checkPut(t, intType(), twice, intValue(0), []impl.Value{intValue(row.put)}, intValue(row.want-row.add))
	}
}

// TestPutAtAllIndices has lists of many lengths.
func TestPutAtAllIndices(t *testing.T) {
	s, list := listType(intType()), impl.Value{Kind: 5}
	numbered := []impl.Value{}
	for length := range mostValue {
		for _, n := range []int{0, 1, 2, length - 2, length - 1, length, length + 1, 2*length + 1, mostStep} {
			if n < 0 {
				continue
			}
			if n >= length {
				checkPut(t, s, atOptic(n), list, nil, list)
				checkNoPut(t, s, atOptic(n), list, []impl.Value{intValue(-1)})
				continue
			}
			want, turned := listValue(slices.Clone(list.Args)...), listValue(slices.Clone(list.Args)...)
			want.Args[n], turned.Args[length-1-n] = intValue(-1), intValue(-1)
			checkPut(t, s, atOptic(n), list, []impl.Value{intValue(-1)}, want)
			checkPut(t, s, thenOptic(revOptic(), atOptic(n)), list, []impl.Value{intValue(-1)}, turned)
			checkNoPut(t, s, atOptic(n), list, nil)
		}
		checkPut(t, s, eachOptic(), list, numbered, listValue(numbered...))
		list.Args, numbered = append(list.Args, intValue(length)), append(numbered, intValue(1000-length))
	}
}

// checkPutBy compares the results with the definition, also where Put fails; it reports whether it does not.
func checkPutBy(t *testing.T, s impl.Type, o impl.Optic, v impl.Value, list []impl.Value) bool {
	t.Helper()
	want, ok := putBy(s, o, v, list)
	if !ok {
		checkNoPut(t, s, o, v, list)
		return false
	}
	checkPut(t, s, o, v, list, want)
	return true
}

// TestPutByAllLeaves has all types with some of their values and with optics of all kinds that have no Args.
func TestPutByAllLeaves(t *testing.T) {
	count, failures := 0, 0
	check := func(s impl.Type, o impl.Optic, v impl.Value, list ...impl.Value) {
		if checkPutBy(t, s, o, v, list) {
			count++
		} else {
			failures++
		}
	}
	for _, s := range validTypes() {
		for _, v := range valuesOfType(s) {
			for _, o := range leafOptics() {
				check(s, o, v)
				focus, kind := typeBy(s, o)
				if kind == 0 {
					check(s, o, v, v)
					continue
				}
				values := valuesOfType(focus)
				for k, x := range values {
					check(s, o, v, x)
					check(s, o, v, x, values[(k+1)%len(values)])
				}
			}
		}
	}
	if count < 3000 || failures < 3000 {
		t.Errorf("Put succeeds %d times and fails %d times", count, failures)
	}
}

// randomList returns what can be put in the places of foci of a type; sometimes something else.
func randomList(source *rand.Rand, focus impl.Type, count int) []impl.Value {
	if source.Intn(20) == 0 {
		count = max(0, count+source.Intn(3)-1)
	}
	var list []impl.Value
	for range count {
		list = append(list, randomValue(source, focus))
	}
	if count > 0 && source.Intn(20) == 0 {
		values := someValues()
		list[source.Intn(count)] = values[source.Intn(len(values))]
	}
	return list
}

func TestPutByRandomOptics(t *testing.T) {
	source := rand.New(rand.NewSource(12))
	types := validTypes()
	numbers := map[[2]int]int{}
	failures := 0
	for range 20000 {
		s := types[source.Intn(len(types))]
		o := randomFitting(source, s, 1+source.Intn(mostOptic))
		v := randomValue(source, s)
		if source.Intn(30) == 0 {
			v = randomValue(source, types[source.Intn(len(types))])
		}
		focus, kind := typeBy(s, o)
		if kind == 0 {
			focus = s
		}
		list := randomList(source, focus, max(0, impl.CountFoci(s, o, v)))
		if !checkPutBy(t, s, o, v, list) {
			failures++
			continue
		}
		numbers[[2]int{kind, min(len(list), 2)}]++
	}
	want := [][2]int{{1, 1}, {2, 1}, {3, 0}, {3, 1}, {4, 0}, {4, 1}, {5, 0}, {5, 1}, {5, 2}}
	for _, key := range want {
		if numbers[key] < 50 {
			t.Errorf("%d optics of the kind %d with %d foci", numbers[key], key[0], key[1])
		}
	}
	if len(numbers) != len(want) || failures < 500 {
		t.Errorf("kinds with numbers of foci: %v; %d without", numbers, failures)
	}
}

// numberedInts returns different integers.
func numberedInts(first int, count int) []impl.Value {
	var list []impl.Value
	for n := range count {
		list = append(list, intValue(first+n))
	}
	return list
}

// TestWhatIsPutReplacesTheFoci is promise 12: it has optics of all five kinds, composed of two or three in all ways, in
// sources with all numbers of foci from 0 to 3 in each.
func TestWhatIsPutReplacesTheFoci(t *testing.T) {
	counts := map[int]bool{}
	for _, a := range kindSteps() {
		checkReplacing(t, a.around(intType()), a.optic, counts)
		for _, b := range kindSteps() {
			checkReplacing(t, a.around(b.around(intType())), thenOptic(a.optic, b.optic), counts)
			for _, c := range kindSteps()[2:6] {
				s := a.around(b.around(c.around(intType())))
				checkReplacing(t, s, thenOptic(a.optic, thenOptic(b.optic, c.optic)), counts)
				checkReplacing(t, s, thenOptic(thenOptic(a.optic, b.optic), c.optic), counts)
			}
		}
	}
	for _, count := range []int{0, 1, 2, 3, 4, 6, 8, 9, 12, 18, 27} {
		if !counts[count] {
			t.Errorf("no optic with %d foci", count)
		}
	}
}

func checkReplacing(t *testing.T, s impl.Type, o impl.Optic, counts map[int]bool) {
	t.Helper()
	for _, v := range fullValues(s) {
		foci, ok := impl.Foci(s, o, v)
		if !ok {
			t.Fatalf("Foci(%v, %v, %v)", s, o, v)
		}
		counts[len(foci)] = true
		if same, ok := impl.Put(s, o, v, foci); !ok || !sameValue(same, v) {
			t.Errorf("Put(%v, %v, %v) of its foci is %v, %v", s, o, v, same, ok)
		}
		list, later := numberedInts(100, len(foci)), numberedInts(500, len(foci))
		put, ok := impl.Put(s, o, v, list)
		if got, _ := impl.Foci(s, o, put); !ok || !slices.EqualFunc(got, list, sameValue) {
			t.Errorf("after Put(%v, %v, %v, %v) the foci are %v", s, o, v, list, got)
		}
		twice, ok := impl.Put(s, o, put, later)
		once, okOnce := impl.Put(s, o, v, later)
		if !ok || !okOnce || !sameValue(twice, once) {
			t.Errorf("Put(%v, %v, %v, %v) after another one is %v, want %v", s, o, v, later, twice, once)
		}
		if one, ok := impl.PutOne(s, o, put, intValue(1)); !ok || !sameValue(one, v) {
			t.Errorf("PutOne(%v, %v, %v, 1) is %v, want %v", s, o, put, one, v)
		}
	}
}

func TestPutOneTable(t *testing.T) {
	rows := []putRow{
		// No focus: what is put need not have their type.
		{"[I]", "[]", "each", "5", "same"}, {"[I]", "[]", "each", "#t", "same"}, {"<p:I,q:B>", "<q #t>", "?p", "5", "same"}, {"<p:I,q:B>", "<q #t>", "?p", "[[]]", "same"}, {"[I]", "[4]", "at 1", "5", "same"}, {"[[I]]", "[[],[]]", "(each;each)", "{a=1}", "same"}, {"<p:I,q:I,r:B>", "<r #t>", "(?p|?q)", "<x 1>", "same"},
		// One.
		{"I", "5", "id", "6", "6"}, {"I", "5", "add 3", "6", "3"}, {"B", "#t", "not", "#t", "#f"}, {"[I]", "[1,2]", "rev", "[3,4]", "[4,3]"}, {"[I]", "[1,2]", "map add 1", "[3,4,5]", "[2,3,4]"}, {"{a:I,b:I}", "{a=1,b=2}", ".b", "7", "{a=1,b=7}"}, {"<p:I,q:B>", "<p 5>", "?p", "6", "<p 6>"}, {"[I]", "[4]", "each", "5", "[5]"}, {"[I]", "[4,6]", "at 1", "5", "[4,5]"}, {"I", "1", "wrap w", "{w=2}", "2"}, {"<p:I,q:I>", "<q 1>", "(?p|?q)", "2", "<q 2>"}, {"[[I]]", "[[],[1],[]]", "(each;each)", "2", "[[],[2],[]]"},
		// Several.
		{"[I]", "[1,2]", "each", "5", "[5,5]"}, {"[I]", "[1,2,3]", "(each;add 1)", "5", "[4,4,4]"}, {"{a:I,b:I,c:I}", "{a=1,b=2,c=3}", "all", "0", "{a=0,b=0,c=0}"}, {"[[I]]", "[[1,2],[],[3]]", "each", "[4,5]", "[[4,5],[4,5],[4,5]]"}, {"[[I]]", "[[1,2],[],[3]]", "(each;each)", "4", "[[4,4],[],[4]]"}, {"[<p:I,q:B>]", "[<p 5>,<q #t>,<p 7>]", "(each;?p)", "1", "[<p 1>,<q #t>,<p 1>]"}, {"[[I]]", "[[1,2],[3]]", "(each;rev)", "[4,5]", "[[5,4],[5,4]]"},
		// It fails as Put does.
		{"[I]", "[1,2]", "each", "#t", "no"}, {"[I]", "[1]", "each", "[5]", "no"}, {"[I]", "[1]", "at 0", "{a=1}", "no"}, {"I", "5", "id", "#t", "no"}, {"I", "5", "not", "#t", "no"}, {"[I]", "[]", ".a", "5", "no"}, {"[I]", "[#t]", "each", "5", "no"}, {"I", "#t", "id", "5", "no"}, {"<p:I,q:B>", "<q #t>", "?q", "1", "no"}, {"<p:I,q:B>", "<q 5>", "?p", "1", "no"}, {"I", "1", "wrap w", "2", "no"}, {"I", "1", "wrap w", "{v=2}", "no"}, {"[I]", "[1]", "map wrap w", "[2]", "no"},
	}
	for _, row := range rows {
		s, v, o, x := typeOfText(t, row.source), valueOfText(t, row.value), opticOfText(t, row.optic), valueOfText(t, row.list)
		want := v
		if row.result == "no" {
			want = impl.Value{}
		} else if row.result != "same" {
			want = valueOfText(t, row.result)
		}
		got, ok := impl.PutOne(s, o, v, x)
		if ok != (row.result != "no") || !sameValue(got, want) {
			t.Errorf("PutOne of %v is %v, %v", row, got, ok)
		}
		count := impl.CountFoci(s, o, v)
		if put, isPut := impl.Put(s, o, v, slices.Repeat([]impl.Value{x}, max(count, 0))); isPut != ok || !sameValue(put, got) {
			t.Errorf("Put of %v is %v, %v, PutOne %v, %v", row, put, isPut, got, ok)
		}
	}
}

// TestPutOfOtherLists has numbers of elements that are not those of the foci, and elements of other types.
func TestPutOfOtherLists(t *testing.T) {
	rows := []putRow{
		{"I", "5", "id", "[]", ""}, {"I", "5", "id", "[1,2]", ""}, {"I", "5", "id", "[#t]", ""}, {"I", "5", "id", "[[5]]", ""}, {"B", "#t", "not", "[0]", ""}, {"B", "#t", "not", "[]", ""}, {"B", "#t", "not", "[#t,#t]", ""}, {"I", "5", "add 1", "[#t]", ""}, {"I", "5", "add 1", "[]", ""},
		{"{a:I,b:B}", "{a=1,b=#t}", ".a", "[]", ""}, {"{a:I,b:B}", "{a=1,b=#t}", ".a", "[#t]", ""}, {"{a:I,b:B}", "{a=1,b=#t}", ".b", "[1]", ""}, {"{a:I,b:I}", "{a=1,b=2}", ".a", "[1,2]", ""}, {"{a:I,b:B}", "{a=1,b=#t}", "id", "[{a=1}]", ""}, {"{a:I,b:B}", "{a=1,b=#t}", "id", "[{a=1,b=2}]", ""}, {"{a:I,b:B}", "{a=1,b=#t}", "id", "[{a=1,c=#t}]", ""},
		{"<p:I,q:B>", "<p 5>", "?p", "[]", ""}, {"<p:I,q:B>", "<p 5>", "?p", "[#t]", ""}, {"<p:I,q:B>", "<p 5>", "?p", "[<p 5>]", ""}, {"<p:I,q:B>", "<q #t>", "?p", "[5]", ""}, {"<p:I,q:B>", "<p 5>", "?q", "[#t]", ""}, {"<p:I,q:B>", "<p 5>", "id", "[<r 5>]", ""}, {"<p:I,q:B>", "<p 5>", "id", "[<q 5>]", ""},
		{"[I]", "[]", "each", "[1]", ""}, {"[I]", "[1]", "each", "[]", ""}, {"[I]", "[1]", "each", "[1,2]", ""}, {"[I]", "[1,2]", "each", "[1]", ""}, {"[I]", "[1,2]", "each", "[1,2,3]", ""}, {"[I]", "[1,2,3]", "each", "[1,2]", ""}, {"[I]", "[1,2]", "each", "[#t,2]", ""}, {"[I]", "[1,2]", "each", "[1,#t]", ""}, {"[I]", "[1,2,3]", "each", "[1,[2],3]", ""}, {"[[I]]", "[[1]]", "each", "[[#t]]", ""}, {"[[I]]", "[[1]]", "each", "[1]", ""},
		{"{a:I,b:I}", "{a=1,b=2}", "all", "[1]", ""}, {"{a:I,b:I}", "{a=1,b=2}", "all", "[1,2,3]", ""}, {"{a:I,b:I}", "{a=1,b=2}", "all", "[]", ""}, {"{a:I,b:I}", "{a=1,b=2}", "all", "[1,#f]", ""}, {"{a:I,b:I}", "{a=1,b=2}", "all", "[{a=1,b=2}]", ""},
		{"[I]", "[4]", "at 0", "[]", ""}, {"[I]", "[4]", "at 1", "[5]", ""}, {"[I]", "[4,5]", "at 1", "[5,6]", ""}, {"[I]", "[4]", "at 0", "[#t]", ""}, {"[I]", "[4,5]", "at 0", "[[1]]", ""},
		{"[I]", "[1,2]", "rev", "[1,2]", ""}, {"[I]", "[1,2]", "rev", "[[1,#t]]", ""}, {"[I]", "[1,2]", "rev", "[]", ""}, {"I", "5", "wrap w", "[5]", ""}, {"I", "5", "wrap w", "[{v=5}]", ""}, {"I", "5", "wrap w", "[{w=#t}]", ""}, {"I", "5", "wrap w", "[{w=5,x=5}]", ""}, {"I", "5", "wrap w", "[]", ""}, {"I", "5", "wrap w", "[<w 5>]", ""}, {"[I]", "[1,2]", "map add 1", "[1,2]", ""}, {"[I]", "[1,2]", "map add 1", "[[1,#t]]", ""}, {"[I]", "[]", "map add 1", "[]", ""}, {"[I]", "[1]", "map wrap w", "[[1]]", ""}, {"[I]", "[1]", "map wrap w", "[[{v=1}]]", ""},
		{"[[I]]", "[[1,2],[],[3]]", "(each;each)", "[1,2]", ""}, {"[[I]]", "[[1,2],[],[3]]", "(each;each)", "[1,2,3,4]", ""}, {"[[I]]", "[[1,2],[],[3]]", "(each;each)", "[[1,2],[],[3]]", ""}, {"[[I]]", "[[1,2],[],[3]]", "(each;each)", "[]", ""}, {"[[I]]", "[[1,2],[],[3]]", "(each;each)", "[1,2,#t]", ""}, {"[<p:I,q:B>]", "[<p 5>,<q #t>]", "(each;?p)", "[1,2]", ""}, {"[<p:I,q:B>]", "[<p 5>,<q #t>]", "(each;?p)", "[]", ""}, {"<p:I,q:B>", "<q #t>", "(?p;add 1)", "[1]", ""},
		{"<p:I,q:I>", "<q 1>", "(?p|?q)", "[]", ""}, {"<p:I,q:I>", "<q 1>", "(?p|?q)", "[1,2]", ""}, {"<p:I,q:I>", "<q 1>", "(?p|?q)", "[#t]", ""}, {"<p:I,q:I,r:B>", "<r #t>", "(?p|?q)", "[1]", ""}, {"{a:I,b:I}", "{a=1,b=2}", "(.a|.b)", "[3,4]", ""},
	}
	for _, row := range rows {
		s, v, o, list := typeOfText(t, row.source), valueOfText(t, row.value), opticOfText(t, row.optic), valueOfText(t, row.list).Args
		if impl.CountFoci(s, o, v) < 0 {
			t.Fatal(row)
		}
		checkNoPut(t, s, o, v, list)
		checkNoPut(t, s, thenOptic(idOptic(), o), v, list)
		checkNoPut(t, recType("k v", boolType(), s), thenOptic(fieldOptic("v"), o), recValue("k v", boolValue(1), v), list)
		checkNoPut(t, listType(s), thenOptic(eachOptic(), o), listValue(v, v), slices.Concat(list, fociBy(o, v)))
		checkNoPut(t, listType(s), thenOptic(eachOptic(), o), listValue(v, v), slices.Concat(fociBy(o, v), list))
	}
	// One focus has an element too few, another one an element too many: as many as there are foci, in other places.
	s, v := typeOfText(t, "[[I]]"), valueOfText(t, "[[1,2],[],[3]]")
	checkPut(t, s, opticOfText(t, "(each;each)"), v, numberedInts(7, 3), valueOfText(t, "[[7,8],[],[9]]"))
}

// TestPutOfFormlessElements has elements of which one node is that of no value.
func TestPutOfFormlessElements(t *testing.T) {
	focus := typeOfText(t, "{a:<p:[B],q:I>,b:B,c:[{x:I}]}")
	x := valueOfText(t, "{a=<p [#f,#t]>,b=#t,c=[{x=1},{x=2}]}")
	y := valueOfText(t, "{a=<q 5>,b=#f,c=[]}")
	s, v := listType(focus), listValue(y, x)
	check := func(list ...impl.Value) {
		t.Helper()
		checkPutBy(t, s, eachOptic(), v, list)
		checkPutBy(t, s, revOptic(), v, []impl.Value{listValue(list...)})
		checkPutBy(t, s, idOptic(), v, []impl.Value{listValue(list...)})
		checkPutBy(t, focus, idOptic(), y, list[:1])
		checkPutBy(t, focus, wrapOptic("w"), y, []impl.Value{recValue("w", list[0])})
		checkPutBy(t, sumType("p q", focus, focus), caseOptic("q"), tagValue("q", y), list[:1])
		checkPutBy(t, sumType("p q", focus, focus), caseOptic("q"), tagValue("q", y), list[1:])
		checkPutBy(t, recType("p q", focus, focus), allOptic(), recValue("p q", y, y), list)
	}
	check(x, y)
	for _, node := range formlessValues() {
		for _, changed := range withValueReplaced(x, node) {
			if areNodes(changed) {
				t.Fatal(changed)
			}
			check(changed, y)
			check(y, changed)
		}
	}
	for _, node := range []impl.Value{intValue(7), boolValue(0), listValue(), recValue("x", intValue(5)), tagValue("q", intValue(3))} {
		for _, changed := range withValueReplaced(x, node) {
			check(changed, y)
			check(y, changed)
		}
	}
}

// checkNoPutting checks that nothing can be put, whatever the list is.
func checkNoPutting(t *testing.T, s impl.Type, o impl.Optic, v impl.Value) {
	t.Helper()
	checkNoPut(t, s, o, v, nil)
	checkNoPut(t, s, o, v, []impl.Value{})
	for _, x := range []impl.Value{v, {}, intValue(0), boolValue(0), listValue(), recValue("w", v)} {
		checkNoPut(t, s, o, v, []impl.Value{x})
		checkNoPut(t, s, o, v, []impl.Value{x, x})
	}
}

// checkNoPuttingWithin checks the same where the optic is a part of another one.
func checkNoPuttingWithin(t *testing.T, s impl.Type, o impl.Optic, v impl.Value) {
	t.Helper()
	for _, x := range []impl.Optic{o, thenOptic(idOptic(), o), thenOptic(o, idOptic()), elseOptic(o, idOptic()), elseOptic(idOptic(), o), elseOptic(o, o)} {
		checkNoPutting(t, s, x, v)
	}
	for count := range 3 {
		list := listValue(slices.Repeat([]impl.Value{v}, count)...)
		for _, x := range []impl.Optic{thenOptic(eachOptic(), o), thenOptic(atOptic(0), o), mapOptic(o)} {
			checkNoPutting(t, listType(s), x, list)
		}
	}
}

func TestPutByUnfitOptics(t *testing.T) {
	for _, row := range unfitRows() {
		checkNoPuttingWithin(t, typeOfText(t, row[0]), opticOfText(t, row[2]), valueOfText(t, row[1]))
	}
}

func TestPutIntoOtherValues(t *testing.T) {
	for _, row := range otherValueRows() {
		s, v, o := typeOfText(t, row[0]), valueOfText(t, row[1]), opticOfText(t, row[2])
		checkNoPutting(t, s, o, v)
		checkNoPutting(t, listType(s), thenOptic(eachOptic(), o), listValue(defaultOf(s), v))
		checkNoPutting(t, recType("k v", intType(), s), fieldOptic("k"), recValue("k v", intValue(1), v))
	}
	for _, s := range validTypes() {
		for _, v := range someValues() {
			checkPutBy(t, s, idOptic(), v, []impl.Value{defaultOf(s)})
			checkPutBy(t, s, idOptic(), defaultOf(s), []impl.Value{v})
		}
	}
}

// TestPutForInvalidTypes has types that are not valid, though the value would not reach the part that is not.
func TestPutForInvalidTypes(t *testing.T) {
	i := intType()
	for _, x := range formlessTypes() {
		for _, v := range []impl.Value{{}, intValue(0), boolValue(0), recValue("a", intValue(0)), recValue("a b", intValue(0), intValue(0)), tagValue("a", intValue(0)), listValue(), listValue(intValue(0)), {Kind: x.Kind}, {Kind: x.Kind, Labels: x.Labels, Args: zeros(len(x.Args))}} {
			for _, o := range []impl.Optic{idOptic(), fieldOptic("a"), caseOptic("a"), eachOptic(), allOptic(), atOptic(0), addOptic(1), notOptic(), revOptic(), wrapOptic("w"), mapOptic(idOptic())} {
				checkNoPutting(t, x, o, v)
			}
		}
		for _, o := range []impl.Optic{idOptic(), eachOptic(), atOptic(0), revOptic(), wrapOptic("w"), mapOptic(idOptic())} {
			checkNoPutting(t, listType(x), o, listValue())
		}
		for _, o := range []impl.Optic{idOptic(), caseOptic("p"), caseOptic("q"), wrapOptic("w")} {
			checkNoPutting(t, sumType("p q", i, x), o, tagValue("p", intValue(0)))
		}
		for _, o := range []impl.Optic{idOptic(), fieldOptic("a"), fieldOptic("b"), allOptic()} {
			checkNoPutting(t, recType("a b", i, listType(x)), o, recValue("a b", intValue(0), listValue()))
		}
	}
	for size := mostTypeSize - 2; size <= mostTypeSize+2; size++ {
		s := typeOfSize(size)
		v := defaultOf(s)
		for _, list := range [][]impl.Value{{v}, {recValue("w", v)}} {
			checkPutBy(t, s, idOptic(), v, list)
			checkPutBy(t, s, wrapOptic("w"), v, list)
			checkPutBy(t, s, thenOptic(wrapOptic("w"), fieldOptic("w")), v, list)
		}
		checkPutBy(t, listType(s), mapOptic(wrapOptic("w")), listValue(), []impl.Value{listValue()})
		checkPutBy(t, sumType("p q", i, s), caseOptic("p"), tagValue("p", intValue(0)), zeros(1))
	}
}

// TestPutByNoOptics has values that are no optics, though a part of them, or one with fewer fields, would fit.
func TestPutByNoOptics(t *testing.T) {
	sources := [][2]string{{"I", "1"}, {"B", "#t"}, {"{a:I,b:I}", "{a=1,b=2}"}, {"<a:I,b:I>", "<a 1>"}, {"[I]", "[1,2]"}, {"[[B]]", "[]"}}
	for _, source := range sources {
		s, v := typeOfText(t, source[0]), valueOfText(t, source[1])
		for _, o := range formlessOptics() {
			checkNoPuttingWithin(t, s, o, v)
		}
		for depth := mostOpticDepth - 2; depth <= mostOpticDepth+3; depth++ {
			for _, o := range []impl.Optic{nestOptic(idOptic(), depth-1, func(o impl.Optic) impl.Optic { return thenOptic(o, idOptic()) }), nestOptic(idOptic(), depth-1, func(o impl.Optic) impl.Optic { return elseOptic(idOptic(), o) })} {
				if depth > mostOpticDepth {
					checkNoPutting(t, s, o, v)
				} else {
					checkPut(t, s, o, v, []impl.Value{defaultOf(s)}, defaultOf(s))
				}
			}
		}
		for size := 1; size <= 2*mostOptic; size += 2 {
			if size > mostOptic {
				checkNoPutting(t, s, balancedIds(size), v)
			} else {
				checkPut(t, s, balancedIds(size), v, []impl.Value{defaultOf(s)}, defaultOf(s))
			}
		}
	}
}

// listOfSize returns a list of integers with as many nodes.
func listOfSize(size int) impl.Value { return listValue(zeros(size - 1)...) }

// TestPutAtMostSize has sources, elements and results of as many nodes as a value can have, and of more.
func TestPutAtMostSize(t *testing.T) {
	s, small := listType(intType()), listValue(intValue(5))
	check := func(isPut bool, s impl.Type, o impl.Optic, v impl.Value, list ...impl.Value) {
		t.Helper()
		if checkPutBy(t, s, o, v, list) != isPut {
			t.Errorf("Put by %v into %d nodes fails, or does not", o, nodesOfValue(v))
		}
	}
	for size := mostValue - 3; size <= mostValue+3; size++ {
		isValue := size <= mostValue
		// The source.
		check(isValue, s, atOptic(0), listOfSize(size), intValue(5))
		check(isValue, s, eachOptic(), listOfSize(size), numberedInts(0, size-1)...)
		check(isValue, s, revOptic(), listOfSize(size), small)
		check(isValue, s, atOptic(size), listOfSize(size))
		check(isValue, recType("k v", intType(), s), fieldOptic("v"), recValue("k v", intValue(5), listOfSize(size-2)), small)
		// The element that is put. As it is larger than what it makes of the source, only its own size counts.
		check(isValue, s, idOptic(), small, listOfSize(size))
		check(isValue, s, revOptic(), small, listOfSize(size))
		check(isValue, s, mapOptic(addOptic(1)), small, listOfSize(size))
		check(isValue, s, wrapOptic("w"), small, recValue("w", listOfSize(size-1)))
		check(isValue, s, thenOptic(wrapOptic("a"), wrapOptic("b")), small, recValue("b", recValue("a", listOfSize(size-2))))
		// The result.
		check(isValue, recType("k v", intType(), s), fieldOptic("v"), recValue("k v", intValue(5), small), listOfSize(size-2))
		check(isValue, sumType("p q", intType(), s), caseOptic("q"), tagValue("q", small), listOfSize(size-1))
		check(isValue, listType(s), eachOptic(), listValue(small, small), listOfSize(100), listOfSize(size-101))
		check(isValue, recType("a b", s, s), allOptic(), recValue("a b", small, small), listOfSize(size-101), listOfSize(100))
		check(isValue, listType(s), atOptic(1), listValue(listOfSize(100), small), listOfSize(size-101))
		check(isValue, listType(s), thenOptic(eachOptic(), revOptic()), listValue(small, small), listOfSize(100), listOfSize(size-101))
		check(isValue, listType(s), thenOptic(revOptic(), atOptic(0)), listValue(listOfSize(100), small), listOfSize(size-101))
		check(isValue, recType("k v", intType(), s), elseOptic(fieldOptic("v"), fieldOptic("v")), recValue("k v", intValue(5), small), listOfSize(size-2))
	}
	// PutOne of the same element several times: 13 of 23 nodes are 300 with the list around them.
	for count := range 20 {
		source := listValue(slices.Repeat([]impl.Value{small}, count)...)
		check(1+23*count <= mostValue, listType(s), eachOptic(), source, slices.Repeat([]impl.Value{listOfSize(23)}, count)...)
		check(1+27*count <= mostValue, listType(s), eachOptic(), source, slices.Repeat([]impl.Value{listOfSize(27)}, count)...)
	}
}

// TestPutOnLongWays has values on the way, and foci, that have more than MaxValue nodes, though the result has not.
func TestPutOnLongWays(t *testing.T) {
	s, v := listType(intType()), listOfSize(mostValue)
	numbered := numberedInts(7, mostValue-1)
	whole := listValue(numbered...)
	turned := listValue(slices.Clone(numbered)...)
	slices.Reverse(turned.Args)
	last := listValue(append(zeros(mostValue-2), intValue(5))...)
	check := func(optic string, want impl.Value, list ...impl.Value) {
		t.Helper()
		checkPut(t, s, opticOfText(t, optic), v, list, want)
	}
	check("(wrap w;.w)", whole, whole)
	check("(wrap w;(.w;at 298))", last, intValue(5))
	check("(wrap a;(wrap b;(wrap c;(.c;(.b;.a)))))", whole, whole)
	check("((wrap a;(wrap b;wrap c));(.c;(.b;.a)))", whole, whole)
	check("(map wrap w;(each;.w))", whole, numbered...)
	check("(map wrap w;(rev;(each;.w)))", turned, numbered...)
	check("(map wrap w;(at 298;.w))", last, intValue(5))
	check("(map (wrap a;wrap b);(at 298;(.b;.a)))", last, intValue(5))
	check("(wrap a;(all;each))", whole, numbered...)
	check("((map wrap w;(at 999;.w))|(map wrap w;(at 298;.w)))", last, intValue(5))
	check("(map wrap w;at 999)", v)
	// The foci in v are no values, and so cannot be put, but others can.
	check("wrap w", listOfSize(299), recValue("w", listOfSize(299)))
	check("map wrap w", listOfSize(100), listValue(slices.Repeat([]impl.Value{recValue("w", intValue(0))}, 99)...))
	check("(map wrap a;map wrap b)", listOfSize(100), listValue(slices.Repeat([]impl.Value{recValue("b", recValue("a", intValue(0)))}, 99)...))
	for _, optic := range []string{"wrap w", "map wrap w", "(wrap a;wrap b)", "(map wrap a;map wrap b)", "(rev;wrap w)", "(wrap w|wrap w)"} {
		o := opticOfText(t, optic)
		foci, ok := impl.Foci(s, o, v)
		if !ok || len(foci) != 1 || impl.IsValue(foci[0]) {
			t.Fatal(optic)
		}
		checkNoPut(t, s, o, v, foci)
	}
}

// sparedList has elements behind its length.
func sparedList(depth int, count int) []impl.Value {
	list := []impl.Value{}
	for range count {
		list = append(list, sparedValue(depth))
	}
	return append(list, impl.Value{Kind: 19}, impl.Value{Kind: 20})[:count]
}

func wholesOfValues(list []impl.Value) []impl.Value {
	var wholes []impl.Value
	for _, v := range list[:cap(list)] {
		wholes = append(wholes, wholeOfValue(v))
	}
	return wholes
}

func TestPutKeepsItsArguments(t *testing.T) {
	call := func(s impl.Type, o impl.Optic, v impl.Value, lists ...[]impl.Value) {
		for _, list := range lists {
			impl.Put(s, o, v, list)
		}
		impl.PutOne(s, o, v, lists[1][0])
	}
	optics := append(someValidOptics(), formlessOptics()...)
	optics = append(optics, thenOptic(eachOptic(), fieldOptic("a")), thenOptic(eachOptic(), wrapOptic("w")), thenOptic(revOptic(), eachOptic()), mapOptic(idOptic()), thenOptic(allOptic(), allOptic()), thenOptic(fieldOptic("a"), fieldOptic("b")))
	for depth := range 4 {
		s, v := sparedType(depth), sparedValue(depth)
		source := impl.Value{Kind: 5, Args: sparedList(depth, 2)}
		lists := [][]impl.Value{sparedList(depth, 0), sparedList(depth, 1), sparedList(depth, 2), sparedList(depth, 3), {{Kind: 5, Args: sparedList(depth, 2)}}}
		show := func() []any {
			shown := []any{wholeOf(s), wholeOfValue(v), wholeOfValue(source)}
			for _, list := range lists {
				shown = append(shown, wholesOfValues(list))
			}
			return shown
		}
		before := show()
		for _, o := range optics {
			call(s, o, v, lists...)
			call(listType(s), o, source, lists...)
		}
		for kind := -1; kind <= 15; kind++ {
			o := sparedOptic(kind, depth)
			opticBefore := wholeOfOptic(o)
			call(s, o, v, lists...)
			call(listType(s), o, source, lists...)
			if !reflect.DeepEqual(wholeOfOptic(o), opticBefore) {
				t.Errorf("%v became %v", opticBefore, wholeOfOptic(o))
			}
		}
		if after := show(); !reflect.DeepEqual(after, before) {
			t.Errorf("%v became %v", before, after)
		}
	}
	// What is behind the length is not part of the source, nor of the list.
	v := impl.Value{Kind: 5, Args: numberedInts(1, 3)[:2]}
	s, list := listType(intType()), numberedInts(7, 4)[:2]
	checkPut(t, s, eachOptic(), v, list, listValue(intValue(7), intValue(8)))
	checkPut(t, s, atOptic(2), v, nil, listValue(intValue(1), intValue(2)))
	checkPut(t, s, revOptic(), v, []impl.Value{{Kind: 5, Args: list}}, listValue(intValue(8), intValue(7)))
	checkPut(t, s, mapOptic(addOptic(1)), v, []impl.Value{{Kind: 5, Args: list}}, listValue(intValue(6), intValue(7)))
	checkPut(t, sparedType(2), sparedOptic(12, 2), sparedValue(2), sparedList(2, 1), sparedValue(2))
}

// TestPutResultsAreNew overwrites results, and looks whether anything else has changed.
func TestPutResultsAreNew(t *testing.T) {
	part := func() impl.Value { return sparedValue(2) }
	for _, optic := range []string{"id", ".p", ".q", "all", "wrap w", "(all;.a)", "(all;all)", "(.p|.q)", "(id|id)", "(id;id)", "(wrap w;.w)", "(all;wrap w)", "(wrap w;(all;all))", "(all;(all;wrap w))"} {
		checkNewPut(t, recType("p q", sparedType(2), sparedType(2)), opticOfText(t, optic), func() impl.Value { return recValue("p q", part(), part()) })
	}
	list := func() impl.Value { return impl.Value{Kind: 5, Args: sparedList(2, 3)} }
	for _, optic := range []string{"id", "each", "at 0", "at 2", "at 3", "rev", "(rev;each)", "map id", "map wrap w", "(map wrap w;each)", "(map id;(each;all))", "(each;.a)", "(each;wrap w)", "(each;all)", "(at 5|at 1)", "(rev;rev)", "(rev;at 0)", "(at 4;.a)"} {
		checkNewPut(t, listType(sparedType(2)), opticOfText(t, optic), list)
	}
	for _, optic := range []string{"id", "?p", "?q", "(?q|?p)", "(?p;all)", "(?q;all)", "(?p;wrap w)", "wrap w"} {
		checkNewPut(t, sumType("p q", sparedType(2), sparedType(2)), opticOfText(t, optic), func() impl.Value { return tagValue("p", part()) })
	}
	for _, optic := range []string{"id", "add 1", "wrap w", "(add 1|id)"} {
		checkNewPut(t, sparedType(0), opticOfText(t, optic), func() impl.Value { return sparedValue(0) })
	}
}

// checkNewPut puts the foci themselves, so that the result is the same as the source.
func checkNewPut(t *testing.T, s impl.Type, o impl.Optic, source func() impl.Value) {
	t.Helper()
	v, want := source(), copiedValue(source())
	list := append(fociBy(o, source()), impl.Value{Kind: 98})
	list = list[:len(list)-1]
	show := func() []any { return []any{wholeOf(s), wholeOfOptic(o), wholeOfValue(v), wholesOfValues(list)} }
	before := show()
	put, ok := impl.Put(s, o, v, list)
	again, _ := impl.Put(s, o, v, list)
	if !ok || !sameValue(put, want) {
		t.Fatalf("Put by %v is %v", o, put)
	}
	overwriteValue(put)
	if !reflect.DeepEqual(show(), before) || !sameValue(again, want) {
		t.Errorf("what is put by %v shares memory with an argument or with another result", o)
	}
	// The parts that are put equal one another in some sources, but are apart.
	one := impl.Value{Kind: 99}
	if len(list) > 0 {
		one = list[0]
	}
	first, isPut := impl.PutOne(s, o, v, one)
	second, _ := impl.PutOne(s, o, v, one)
	wantOne := copiedValue(first)
	overwriteValue(first)
	if !isPut || !reflect.DeepEqual(show(), before) || !sameValue(second, wantOne) {
		t.Errorf("what is put once by %v shares memory with an argument or with another result", o)
	}
	overwriteValue(v)
	overwriteOptic(o)
	overwrite(s)
	overwriteValue(impl.Value{Args: list})
	if !sameValue(again, want) || !sameValue(second, wantOne) {
		t.Errorf("what is put by %v changes with an argument", o)
	}
}

// TestPartsThatArePutAreApart has the same slices in several places of the source and of the list, and puts the same
// element several times.
func TestPartsThatArePutAreApart(t *testing.T) {
	element := typeOfText(t, "{a:I,b:<p:B>}")
	old := recValue("a b", intValue(1), tagValue("p", boolValue(1)))
	x := recValue("a b", intValue(2), tagValue("p", boolValue(0)))
	oldBefore, xBefore := copiedValue(old), copiedValue(x)
	check := func(s impl.Type, optic string, v impl.Value, list []impl.Value) {
		t.Helper()
		o := opticOfText(t, optic)
		put, ok := impl.Put(s, o, v, list)
		one, isPut := impl.PutOne(s, o, v, list[0])
		if !ok || !isPut {
			t.Fatal(optic)
		}
		for _, result := range []impl.Value{put, one} {
			before := copiedValue(result)
			for k := range result.Args {
				overwriteValue(result.Args[k])
				for after := k + 1; after < len(result.Args); after++ {
					if !sameValue(result.Args[after], before.Args[after]) {
						t.Errorf("two parts of what is put by %s share memory", optic)
					}
				}
			}
		}
		if !sameValue(x, xBefore) || !sameValue(old, oldBefore) {
			t.Errorf("what is put by %s shares memory with an argument", optic)
		}
	}
	s, v := listType(element), listValue(old, old, old)
	for _, optic := range []string{"each", "(rev;each)", "(map id;each)", "(each;(wrap w;.w))", "(each;(id|id))", "(map wrap w;(each;.w))"} {
		check(s, optic, v, []impl.Value{x, x, x})
	}
	for _, optic := range []string{"id", "rev", "map id", "(wrap w;.w)", "(id|id)", "(rev;rev)"} {
		check(s, optic, v, []impl.Value{listValue(x, x, x)})
	}
	check(s, "at 1", v, []impl.Value{x})
	check(s, "(each;wrap w)", v, slices.Repeat([]impl.Value{recValue("w", x)}, 3))
	check(s, "map wrap w", v, []impl.Value{listValue(recValue("w", x), recValue("w", x))})
	check(recType("p q r", element, element, element), "all", recValue("p q r", old, old, old), []impl.Value{x, x, x})
	check(recType("p q r", element, element, element), ".q", recValue("p q r", old, old, old), []impl.Value{x})
	check(listType(s), "each", listValue(v, v), []impl.Value{listValue(x, x), listValue(x, x)})
	check(listType(s), "(each;each)", listValue(v, v), slices.Repeat([]impl.Value{x}, 6))
	check(listType(s), "(each;at 0)", listValue(v, v), []impl.Value{x, x})
	// Where nothing is put, the parts of the source are apart in the result too.
	same, _ := impl.Put(s, atOptic(3), v, nil)
	overwriteValue(same.Args[0])
	if !sameValue(same.Args[1], oldBefore) || !sameValue(old, oldBefore) {
		t.Error("two parts of the source share memory in the result")
	}
}

func TestPutResultsShareNoStrings(t *testing.T) {
	whole := strings.Repeat("abcd", 2)
	a, b := whole[:2], whole[1:3]
	inner := impl.Type{Kind: 4, Labels: []string{a, b}, Args: ints(2)}
	s := impl.Type{Kind: 3, Labels: []string{a}, Args: []impl.Type{inner}}
	v := impl.Value{Kind: 3, Labels: []string{a}, Args: []impl.Value{tagValue(b, intValue(1))}}
	check := func(s impl.Type, o impl.Optic, v impl.Value) {
		t.Helper()
		foci := fociBy(o, v)
		put, ok := impl.Put(s, o, v, foci)
		if !ok || !sameValue(put, v) {
			t.Fatal(o)
		}
		checkNoSharedTexts(t, whole, put)
		if len(foci) > 0 {
			one, _ := impl.PutOne(s, o, v, foci[0])
			checkNoSharedTexts(t, whole, one)
		}
	}
	for _, o := range []impl.Optic{idOptic(), fieldOptic(a), allOptic(), wrapOptic(b), thenOptic(wrapOptic(b), wrapOptic(a)), thenOptic(wrapOptic(b), fieldOptic(b)), elseOptic(wrapOptic(a), wrapOptic(a)), thenOptic(fieldOptic(a), thenOptic(caseOptic(b), wrapOptic(b))), thenOptic(fieldOptic(a), caseOptic(a))} {
		check(s, o, v)
	}
	for _, o := range []impl.Optic{idOptic(), eachOptic(), revOptic(), atOptic(0), atOptic(5), mapOptic(idOptic()), mapOptic(wrapOptic(b)), thenOptic(eachOptic(), wrapOptic(b))} {
		check(listType(s), o, listValue(v, v))
	}
}

// hugeValues lists values that are deep, wide, larger than memory, or without end.
func hugeValues() []impl.Value {
	const long = 100000
	double := func(x impl.Value) impl.Value { return recValue("a b", x, x) }
	list := []impl.Value{nestValue(intValue(0), 60, double), nestValue(intValue(0), long, double), nestValue(intValue(0), long, listAround), nestValue(intValue(0), long, caseAround), listValue(zeros(long)...), tagValue(strings.Repeat("a", long), intValue(0))}
	for kind := range 7 {
		v := make([]impl.Value, 1)
		v[0] = impl.Value{Kind: kind, Args: v}
		list = append(list, v[0], impl.Value{Kind: kind, Labels: []string{"a"}, Args: v}, impl.Value{Kind: kind, Name: "a", Args: v})
	}
	return list
}

func TestPutOfHugeArguments(t *testing.T) {
	const long = 100000
	check := func(s impl.Type, o impl.Optic, v impl.Value, list ...impl.Value) {
		t.Helper()
		put, ok := impl.Put(s, o, v, list)
		one, isPut := impl.PutOne(s, o, v, append(list, intValue(0))[0])
		if ok || isPut || !isZeroValue(put) || !isZeroValue(one) {
			t.Errorf("a huge argument is put: %v", o)
		}
	}
	i, small := intType(), []impl.Value{intValue(0), listValue(intValue(0)), recValue("a", intValue(0)), tagValue("a", intValue(0))}
	plain := []impl.Type{i, listType(i), recType("a", i), sumType("a", i)}
	leaves := []impl.Optic{idOptic(), fieldOptic("a"), caseOptic("a"), eachOptic(), allOptic(), atOptic(0), addOptic(1), revOptic(), wrapOptic("a"), mapOptic(idOptic()), elseOptic(idOptic(), idOptic()), thenOptic(idOptic(), idOptic())}
	for _, huge := range hugeValues() {
		for k, s := range plain {
			for _, o := range leaves {
				check(s, o, huge, small...)
				check(s, o, huge, huge)
				check(listType(s), thenOptic(eachOptic(), o), listValue(small[k], huge), small[k], small[k])
				if impl.IsTyped(s, o) {
					check(s, o, small[k], huge)
					check(s, o, small[k], recValue("a", huge))
					check(listType(s), thenOptic(eachOptic(), o), listValue(small[k]), huge)
				}
			}
			// Where there is no focus, what is put does not matter.
			got, ok := impl.PutOne(listType(s), eachOptic(), listValue(), huge)
			if !ok || !sameValue(got, listValue()) {
				t.Errorf("PutOne without foci is %v, %v", got, ok)
			}
			for _, list := range [][]impl.Value{{small[k], huge}, {huge, small[k]}} {
				if got, ok := impl.Put(listType(s), eachOptic(), listValue(small[k], small[k]), list); ok || !isZeroValue(got) {
					t.Errorf("one huge element of two is put: %v", got)
				}
			}
		}
	}
	for k, s := range plain {
		for _, o := range leaves {
			if got, ok := impl.Put(s, o, small[k], slices.Repeat([]impl.Value{small[k]}, long)); ok || !isZeroValue(got) {
				t.Errorf("a long list is put by %v", o)
			}
		}
	}
	endlessType, endlessOptic := make([]impl.Type, 1), make([]impl.Optic, 2)
	endlessType[0] = impl.Type{Kind: 5, Args: endlessType}
	endlessOptic[0], endlessOptic[1] = impl.Optic{Kind: 12, Args: endlessOptic}, idOptic()
	types := []impl.Type{endlessType[0], nest(i, long, listType), nest(i, 60, func(x impl.Type) impl.Type { return recType("a b", x, x) })}
	optics := []impl.Optic{endlessOptic[0], {Kind: 11, Args: endlessOptic[:1]}, nestOptic(idOptic(), 60, func(o impl.Optic) impl.Optic { return thenOptic(o, o) }), nestOptic(idOptic(), long, mapOptic)}
	for _, x := range append(small, impl.Value{}, listValue()) {
		for _, s := range types {
			for _, o := range append(slices.Clone(optics), leaves...) {
				check(s, o, x, x)
			}
		}
		for _, s := range plain {
			for _, o := range optics {
				check(s, o, x, x)
				check(s, thenOptic(idOptic(), o), x, x)
			}
		}
	}
}

func putResults(s impl.Type, o impl.Optic, v impl.Value, list []impl.Value) string {
	put, ok := impl.Put(s, o, v, list)
	one, isPut := impl.PutOne(s, o, v, list[0])
	return fmt.Sprint(valueText(put), ok, " ", valueText(one), isPut)
}

// TestPutDependsOnItsArgumentsOnly calls the functions again after others, after changes of their arguments, and at once.
func TestPutDependsOnItsArgumentsOnly(t *testing.T) {
	s, o := listType(sumType("p q", intType(), intType())), thenOptic(eachOptic(), caseOptic("p"))
	v := listValue(tagValue("p", intValue(1)), tagValue("q", intValue(2)), tagValue("p", intValue(3)))
	list := numberedInts(8, 2)
	check := func(want string) {
		t.Helper()
		if got := putResults(s, o, v, list); got != want {
			t.Errorf("%q, want %q", got, want)
		}
	}
	for range 3 {
		check("[<p 8>,<q 2>,<p 9>]true [<p 8>,<q 2>,<p 8>]true")
		list[0].N = 5
		check("[<p 5>,<q 2>,<p 9>]true [<p 5>,<q 2>,<p 5>]true")
		v.Args[0].Name = "q"
		check("?false [<q 1>,<q 2>,<p 5>]true")
		o.Args[1] = caseOptic("q")
		check("[<q 5>,<q 9>,<p 3>]true [<q 5>,<q 5>,<p 3>]true")
		s.Args[0] = intType()
		check("?false ?false")
		list[0].N, v.Args[0].Name, s.Args[0], o.Args[1] = 8, "p", sumType("p q", intType(), intType()), caseOptic("p")
	}
	var group sync.WaitGroup
	want := putResults(s, o, v, list)
	for range 8 {
		group.Go(func() {
			for range 200 {
				if got := putResults(s, o, v, list); got != want {
					t.Error(got)
				}
			}
		})
	}
	group.Wait()
}
