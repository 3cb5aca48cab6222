package tests

import (
	"math/rand"
	"reflect"
	"regexp"
	"slices"
	"strconv"
	"strings"
	"testing"

	"loop.example/g00592/impl"
)

// opticText is the definition; it has a text for nodes without a form too, and for optics beyond the limits.
func opticText(o impl.Optic) string {
	words := []string{"?", "id", ".", "?", "each", "all", "at ", "add ", "not", "rev", "wrap ", "map ", ";", "|"}
	if o.Kind < 0 || o.Kind >= len(words) {
		return "?"
	}
	var parts []string
	for _, arg := range o.Args {
		parts = append(parts, opticText(arg))
	}
	word := words[o.Kind]
	switch o.Kind {
	case 6, 7:
		return word + strconv.Itoa(o.N)
	case 12, 13:
		return "(" + strings.Join(parts, word) + ")"
	}
	return word + o.Name + strings.Join(parts, "")
}

const (
	nameWord = `[a-z][a-z0-9]{0,3}`
	stepWord = `[1-9][0-9]{0,2}|1000`
	leafWord = `id|\.` + nameWord + `|\?` + nameWord + `|each|all|at (?:0|` + stepWord + `)|add (?:0|-?(?:` + stepWord + `))|not|rev|wrap ` + nameWord
)

var (
	opticSegment   = regexp.MustCompile(`[^();|]+`)
	wordsOfSegment = regexp.MustCompile(`\A((?:map )*)(` + leafWord + `)?\z`)
	innermostOptic = regexp.MustCompile(`MO|\(O[;|]O\)`)
)

// isOpticText finds out without a parser whether s is the representation of an optic: an M stands for the word of an
// OpMap, and optics become O. In each turn those become one whose parts have become some, so that there is a turn for each
// level.
func isOpticText(s string) bool {
	s = opticSegment.ReplaceAllStringFunc(s, func(part string) string {
		found := wordsOfSegment.FindStringSubmatch(part)
		switch {
		case found == nil:
			return "X"
		case found[2] == "":
			return strings.Repeat("M", len(found[1])/len("map "))
		}
		return strings.Repeat("M", len(found[1])/len("map ")) + "O"
	})
	if countOf(s, "MO(") > mostOptic {
		return false
	}
	for depth := 1; depth <= mostOpticDepth; depth++ {
		if s == "O" {
			return true
		}
		s = innermostOptic.ReplaceAllString(s, "O")
	}
	return false
}

func isZeroOptic(o impl.Optic) bool {
	return o.Kind == 0 && o.Name == "" && o.N == 0 && len(o.Args) == 0
}

// checkOpticText checks ParseOptic of s, which is a representation or is not.
func checkOpticText(t *testing.T, s string, want bool) {
	t.Helper()
	o, ok := impl.ParseOptic(s)
	if ok != want {
		t.Fatalf("ParseOptic(%.200q) is %v, %v", s, o, ok)
	}
	if !ok && !isZeroOptic(o) {
		t.Errorf("ParseOptic(%.200q) is false with %v", s, o)
	}
	if ok && (!isOpticBy(o) || !impl.IsOptic(o) || opticText(o) != s || impl.FormatOptic(o) != s) {
		t.Errorf("ParseOptic(%q) is %v, which is %q", s, o, impl.FormatOptic(o))
	}
}

// checkOptic checks FormatOptic of o, which is an optic or is not, and ParseOptic of the text.
func checkOptic(t *testing.T, o impl.Optic, want bool) {
	t.Helper()
	text := impl.FormatOptic(o)
	if !want {
		if text != "" {
			t.Errorf("FormatOptic(%v) is %q", o, text)
		}
		return
	}
	if text != opticText(o) || !isOpticText(text) {
		t.Errorf("FormatOptic(%v) is %q", o, text)
	}
	if parsed, ok := impl.ParseOptic(text); !ok || !sameOptic(parsed, o) || !impl.EqualOptic(parsed, o) {
		t.Errorf("ParseOptic(%q) is %v, %v", text, parsed, ok)
	}
}

func TestOpticTextTable(t *testing.T) {
	id, each, all, not, rev := idOptic(), impl.Optic{Kind: 4}, impl.Optic{Kind: 5}, impl.Optic{Kind: 8}, impl.Optic{Kind: 9}
	cases := []struct {
		o    impl.Optic
		text string
	}{
		{id, "id"},
		{fieldOptic("a"), ".a"},
		{fieldOptic("z9"), ".z9"},
		{fieldOptic("abcd"), ".abcd"},
		{fieldOptic("id"), ".id"},
		{fieldOptic("map"), ".map"},
		{caseOptic("p"), "?p"},
		{caseOptic("q0"), "?q0"},
		{caseOptic("wrap"), "?wrap"},
		{each, "each"},
		{all, "all"},
		{atOptic(0), "at 0"},
		{atOptic(2), "at 2"},
		{atOptic(10), "at 10"},
		{atOptic(1000), "at 1000"},
		{addOptic(0), "add 0"},
		{addOptic(3), "add 3"},
		{addOptic(-4), "add -4"},
		{addOptic(1000), "add 1000"},
		{addOptic(-1000), "add -1000"},
		{not, "not"},
		{rev, "rev"},
		{wrapOptic("w"), "wrap w"},
		{wrapOptic("wrap"), "wrap wrap"},
		{wrapOptic("id"), "wrap id"},
		{wrapOptic("at"), "wrap at"},
		{mapOptic(rev), "map rev"},
		{mapOptic(atOptic(7)), "map at 7"},
		{mapOptic(wrapOptic("map")), "map wrap map"},
		{mapOptic(fieldOptic("a")), "map .a"},
		{mapOptic(mapOptic(id)), "map map id"},
		{mapOptic(thenOptic(rev, not)), "map (rev;not)"},
		{mapOptic(elseOptic(mapOptic(id), all)), "map (map id|all)"},
		{thenOptic(fieldOptic("a"), caseOptic("p")), "(.a;?p)"},
		{thenOptic(caseOptic("p"), fieldOptic("a")), "(?p;.a)"},
		{elseOptic(fieldOptic("a"), caseOptic("p")), "(.a|?p)"},
		{elseOptic(addOptic(-5), addOptic(6)), "(add -5|add 6)"},
		{thenOptic(mapOptic(id), mapOptic(each)), "(map id;map each)"},
		{thenOptic(thenOptic(id, each), all), "((id;each);all)"},
		{thenOptic(id, thenOptic(each, all)), "(id;(each;all))"},
		{elseOptic(elseOptic(id, each), all), "((id|each)|all)"},
		{elseOptic(id, elseOptic(each, all)), "(id|(each|all))"},
		{elseOptic(thenOptic(fieldOptic("a"), each), fieldOptic("b")), "((.a;each)|.b)"},
		{thenOptic(fieldOptic("a"), elseOptic(each, fieldOptic("b"))), "(.a;(each|.b))"},
		{thenOptic(elseOptic(id, not), elseOptic(wrapOptic("w"), atOptic(1))), "((id|not);(wrap w|at 1))"},
		{thenOptic(fieldOptic("b"), thenOptic(each, caseOptic("p"))), "(.b;(each;?p))"},
		{thenOptic(not, thenOptic(wrapOptic("w"), fieldOptic("w"))), "(not;(wrap w;.w))"},
		{impl.Optic{Kind: 1, Args: []impl.Optic{}}, "id"},
		{impl.Optic{Kind: 7, N: -1, Args: []impl.Optic{}}, "add -1"},
	}
	for _, c := range cases {
		if text := impl.FormatOptic(c.o); text != c.text {
			t.Errorf("FormatOptic(%v) is %q, want %q", c.o, text, c.text)
		}
		if o, ok := impl.ParseOptic(c.text); !ok || !sameOptic(o, c.o) {
			t.Errorf("ParseOptic(%q) is %v, %v, want %v", c.text, o, ok, c.o)
		}
	}
}

// TestOpticsAreParsedFromTheirText is promise 8.
func TestOpticsAreParsedFromTheirText(t *testing.T) {
	seen := map[string]bool{}
	for _, o := range someValidOptics() {
		checkOptic(t, o, true)
		text := impl.FormatOptic(o)
		if seen[text] {
			t.Errorf("%q is the text of two optics", text)
		}
		seen[text] = true
	}
	for _, o := range someOptics() {
		checkOptic(t, o, isOpticBy(o))
		checkOpticText(t, opticText(o), isOpticText(opticText(o)))
	}
	source := rand.New(rand.NewSource(8))
	for range 5000 {
		o := randomOptic(source, 1+source.Intn(30))
		checkOptic(t, o, isOpticBy(o))
		checkOpticText(t, opticText(o), isOpticBy(o))
		o = randomTree(source, 1+source.Intn(10))
		checkOptic(t, o, isOpticBy(o))
		checkOpticText(t, opticText(o), isOpticText(opticText(o)))
	}
}

func TestFormatOpticNeedsAllNodes(t *testing.T) {
	for _, host := range hostOptics() {
		for _, node := range formlessOptics() {
			for _, o := range withOpticReplaced(host, node) {
				checkOptic(t, o, false)
				checkOpticText(t, opticText(o), isOpticText(opticText(o)))
			}
		}
		for _, node := range leafOptics() {
			for _, o := range withOpticReplaced(host, node) {
				checkOptic(t, o, true)
			}
		}
	}
}

// checkSteps checks OpAt and OpAdd with the number n.
func checkSteps(t *testing.T, n int) {
	t.Helper()
	isIndex := n >= 0 && n <= mostStep
	isSummand := n >= -mostStep && n <= mostStep
	for _, around := range append(opticArounds(), func(o impl.Optic) impl.Optic { return o }) {
		checkOptic(t, around(atOptic(n)), isIndex)
		checkOptic(t, around(addOptic(n)), isSummand)
		checkOpticText(t, opticText(around(atOptic(n))), isIndex)
		checkOpticText(t, opticText(around(addOptic(n))), isSummand)
	}
}

func TestStepsOfOptics(t *testing.T) {
	for n := -mostStep - 20; n <= mostStep+20; n++ {
		checkSteps(t, n)
	}
	for _, n := range wrongSteps() {
		checkSteps(t, n)
	}
	for shift := 10; shift < 64; shift++ {
		for off := -1; off <= 1; off++ {
			checkSteps(t, 1<<shift+off)
			checkSteps(t, -(1<<shift)+off)
		}
	}
	for _, n := range []int{mostInteger, mostInteger + 1, leastInteger, leastInteger - 1} {
		checkSteps(t, n)
	}
	for _, s := range slices.Concat(noInteger(), tooLarge(), []string{"1001", "-1001", "9999", "10000", "999999", "01000", "0000", "+1000", "+5", "-00", "0x", "5 5", "--5", "5-"}) {
		for _, word := range []string{"at", "add"} {
			checkOpticText(t, word+" "+s, false)
			checkOpticText(t, "map "+word+" "+s, false)
			checkOpticText(t, "("+word+" "+s+";id)", false)
			checkOpticText(t, "(id|"+word+" "+s+")", false)
		}
	}
}

func TestNamesOfOptics(t *testing.T) {
	names := append(wrongNames(), "a", "z", "m5", "abcd", "a999", "id", "each", "all", "at", "add", "not", "rev", "wrap", "map", "a.", ".a", "?a", "a?", "a;", "a|", "(a)", "a(", "mapp", "idid")
	for b := range 256 {
		names = append(names, string([]byte{byte(b)}), string([]byte{'a', byte(b)}), string([]byte{byte(b), 'a'}))
	}
	for length := range 8 {
		names = append(names, strings.Repeat("z", length), "z"+strings.Repeat("9", length))
	}
	for _, name := range names {
		want := nameText.MatchString(name)
		for _, o := range []impl.Optic{fieldOptic(name), caseOptic(name), wrapOptic(name)} {
			for _, around := range append(opticArounds(), func(o impl.Optic) impl.Optic { return o }) {
				checkOptic(t, around(o), want)
				checkOpticText(t, opticText(around(o)), want)
			}
		}
	}
}

func TestParseOpticRejects(t *testing.T) {
	texts := []string{
		"", " ", "O", "M", "X", "a", "0", "5", "-", ".", "?", ";", "|", "(", ")", "()", "(;)", "(|)", "\x00", "\xff", "nil", ",", ":", "[]", "{}", "<>", "#t",
		"i", "d", "ID", "Id", "iD", "idd", "iid", "ids", "id1", "1id", "i d", "eac", "ach", "eachh", "eeach", "Each", "EACH", "each1", "al", "ll", "alll", "aall", "All", "no", "ot", "nott", "nnot", "Not", "re", "ev", "revv", "rrev", "Rev", "rev0", "none", "reverse", "idid", "eachall", "id each", "notrev", "each each",
		"a", "t", "at", "att", "aat", "At", "at ", "at  1", "at1", "at\t1", "at\n1", "at.1", "at,1", "at-1", "at -1", "at +1", "at -0", "at 01", "at 00", "at 1001", "at 1 ", "at 1 2", "at 1,2", "at x", "at a", "at id", "at (1)", "att 1", "a 1", "aat 1", "AT 1", "at 1at 2", "at 0x1", "at 1.0", "at 1e3", " at 1", "at at 1", "at -", "at 1-", "at --1", "at 1-1",
		"ad", "dd", "add", "addd", "aadd", "Add", "add ", "add  1", "add1", "add-1", "add+1", "add\t1", "add +1", "add -0", "add 01", "add -01", "add 1001", "add -1001", "add - 1", "add --1", "add 1 ", "add 1 2", "add x", "add id", "addd 1", "dd 1", "ADD 1", "add -", "add 1-1", "add 5a", "add a5", "add 1000000000000", "add -1000000000000",
		"wra", "rap", "wrap", "wrapp", "wwrap", "Wrap", "wrap ", "wrap  w", "wrapw", "wrap\tw", "wrap.w", "wrap .w", "wrap W", "wrap 1", "wrap 1w", "wrap abcde", "wrap w ", "wrap w w", "wrap (w)", "wrap w;", "wrap map id", "wrap -", "wrap \u00e9", "wrap wrap w", "wra w", "wrapp w",
		"ma", "ap", "map", "mapp", "mmap", "Map", "map ", "map  id", "mapid", "map\tid", "map.id", "map.a", "map(id;id)", "map x", "map i", "map 1", "map ;", "map ()", "map (id)", "map id id", "map id ", "map map", "map map ", "map mapid", "mapmap id", "ma id", "mapp id", "map id;id", "map map (id)", "map,id", "map (id;id", "map id;id)", "map)", "(map)", "(map;id)", "(id;map)", "(map ;id)", "map .", "map ?", "map at", "map at -1", "map add 1001", "map wrap",
		".A", ".0", ".0a", ".abcde", ". a", ".a ", ".a.b", "..a", ".a?p", ".a b", ".\u00e9", ".a\u00e9", ".\xff", ".a\xff", ".\x00", ".a\x00", ".-", ".a-", ".a1_", ".(a)", ".;", "a.",
		"?P", "?9", "?9p", "?abcde", "? p", "?p ", "?p.a", "??p", "?p?q", "?p q", "?\u00e9", "?p\xff", "?\x00", "?_", "p?", "?;",
		"(id)", "(id;)", "(;id)", "(id|)", "(|id)", "(id;;id)", "(id||id)", "(id;|id)", "(id|;id)", "(id;id;id)", "(id|id|id)", "(id;id|id)", "(id|id;id)", "(id,id)", "(id:id)", "(id id)", "(id.id)", "(id?id)", "(id/id)", "(id\\id)", "(id&id)", "(id+id)", "(id\x00id)", "(idid)", "(id!id)",
		"(id;id", "(id|id", "(id;", "(id|", "(id", "(", "id;id)", "id|id)", "id)", "id;id", "id|id", ";id", "id;", "|id", "id|", "id;id;id", "((id;id)", "(id;id))", "((id;id))", "(((id;id)))", "((id;id);id", "(id;(id;id)", "(id;(id;id", "((id;id;id)", "(id;id)id", "id(id;id)", "(id;id)(id;id)", "(id;id);id", "id;(id;id)", "((id);id)", "(id;(id))", "(();id)", "(id;())", "((;);id)",
		"[id;id]", "{id;id}", "<id;id>", "(id;id]", "[id;id)", "(id;id}", "(id|id>",
		" id", "id ", "  id", "id\n", "\nid", "\tid", "id\t", "id\x00", "\x00id", "\xffid", "id\xff", "\ufeffid", "id\r\n", "xid", "id.", ".id.", "id?", "id,",
		"( id;id)", "(id ;id)", "(id; id)", "(id;id )", " (id;id)", "(id;id) ", "(id\n;id)", "( id|id)", "(id |id)", "(id| id)", "(id|id )", "(\tid;id)", "map (id ;id)", "map ( id;id)", "map  (id;id)",
		"(at 1;id;id)", "(at;id)", "(id;at)", "(at ;id)", "(add;id)", "(add |id)", "(id;add)", "(id|add )", "(wrap;id)", "(id;wrap)", "(wrap ;id)", "(.;id)", "(id|?)", "(.;?)", "(.a;.abcde)", "(.a;at -1)", "(add 1001|id)",
	}
	for _, s := range texts {
		if isOpticText(s) {
			t.Fatalf("%q is a representation", s)
		}
		checkOpticText(t, s, false)
	}
}

// TestParseOpticOfAllShortTexts compares the results with the words of the specification.
func TestParseOpticOfAllShortTexts(t *testing.T) {
	found := 0
	check := func(s string) {
		want := isOpticText(s)
		checkOpticText(t, s, want)
		if want {
			found++
		}
	}
	textsOver("idmap ().;|?a01-A", 3, check)
	textsOver(".?a();| ", 5, check)
	textsOver("at 0-1", 6, check)
	textsOver("id (;|)", 5, check)
	if found == 0 {
		t.Error("no representation among all short texts")
	}
	// Texts of these pieces would be too long to be found among the ones above.
	checkAll := func(most int, pieces ...string) {
		found = 0
		listsOver(pieces, most, func(list []string) { check(strings.Join(list, "")) })
		if found == 0 {
			t.Errorf("no representation of %q", pieces)
		}
	}
	checkAll(3, "id", "each", "all", "not", "rev", "at", "add", "wrap", "map", "at ", "add ", "wrap ", "map ", "(", ")", ";", "|", ".", "?", " ", "a", "0", "-", "1", "1000", "A")
	checkAll(5, "(", ")", ";", "|", "id", "map ", ".a", " ")
	checkAll(7, "(", ")", ";", "id", "map ")
	checkAll(4, "at", "add", "wrap", "map", " ", "0", "-", "1", "00", "a")
}

// TestParseOpticOfChangedTexts has representations that are cut off at each place, or have one byte left out, put in or
// replaced.
func TestParseOpticOfChangedTexts(t *testing.T) {
	bytes := "019-+adeimtz().?;|, AO\n\x00\xff\xe1"
	for _, o := range someValidOptics() {
		s := opticText(o)
		if len(s) > 40 {
			continue
		}
		checkOpticText(t, s, true)
		for k := range len(s) + 1 {
			before, after := s[:k], s[k:]
			checkOpticText(t, before, isOpticText(before))
			checkOpticText(t, after, isOpticText(after))
			for j := range len(bytes) {
				put := before + bytes[j:j+1]
				checkOpticText(t, put+after, isOpticText(put+after))
				if after != "" {
					checkOpticText(t, put+after[1:], isOpticText(put+after[1:]))
				}
			}
			if after != "" {
				checkOpticText(t, before+after[1:], isOpticText(before+after[1:]))
			}
		}
	}
}

// TestParseOpticOfTextsCutOff has the greatest and the deepest optics.
func TestParseOpticOfTextsCutOff(t *testing.T) {
	list := []impl.Optic{opticOfSize(mostOptic)}
	for _, around := range opticArounds() {
		list = append(list, nestOptic(wrapOptic("abcd"), mostOpticDepth-1, around))
	}
	for _, o := range list {
		s := opticText(o)
		checkOpticText(t, s, true)
		for k := range len(s) {
			checkOpticText(t, s[:k], isOpticText(s[:k]))
			checkOpticText(t, s[k+1:], isOpticText(s[k+1:]))
			checkOpticText(t, s+s[k:], isOpticText(s+s[k:]))
			checkOpticText(t, s[:k]+s, isOpticText(s[:k]+s))
		}
	}
}

func TestOpticTextAtMostSize(t *testing.T) {
	for size := 1; size <= 4*mostOptic; size++ {
		o := opticOfSize(size)
		for _, around := range append(opticArounds(), func(o impl.Optic) impl.Optic { return o }) {
			x := around(o)
			nodes, depth := opticExtent(x)
			if depth > mostOpticDepth {
				t.Fatalf("%v is of depth %d", x, depth)
			}
			checkOptic(t, x, nodes <= mostOptic)
			checkOpticText(t, opticText(x), nodes <= mostOptic)
		}
	}
	// As large as the depth permits, where the text is one that only its size makes none.
	double := func(o impl.Optic) impl.Optic { return elseOptic(o, o) }
	for depth := 1; depth <= mostOpticDepth+2; depth++ {
		o := nestOptic(idOptic(), depth-1, double)
		checkOptic(t, o, 1<<depth-1 <= mostOptic)
		checkOpticText(t, opticText(o), 1<<depth-1 <= mostOptic)
	}
}

func TestOpticTextAtMostDepth(t *testing.T) {
	for _, around := range opticArounds() {
		for _, inner := range []impl.Optic{idOptic(), fieldOptic("a"), atOptic(1), addOptic(-1), wrapOptic("w")} {
			for depth := 1; depth <= 2*mostOpticDepth+2; depth++ {
				o := nestOptic(inner, depth-1, around)
				checkOptic(t, o, depth <= mostOpticDepth)
				checkOpticText(t, opticText(o), depth <= mostOpticDepth)
			}
		}
	}
	// Both limits together.
	deep := nestOptic(idOptic(), mostOpticDepth-2, mapOptic)
	rest := mostOptic - mostOpticDepth
	for _, list := range [][]impl.Optic{
		{thenOptic(deep, opticOfSize(rest)), elseOptic(opticOfSize(rest), deep), mapOptic(deep)},
		{thenOptic(deep, opticOfSize(rest+1)), elseOptic(opticOfSize(rest+1), deep), thenOptic(mapOptic(deep), idOptic()), elseOptic(idOptic(), mapOptic(deep)), thenOptic(mapOptic(deep), opticOfSize(rest-1)), mapOptic(mapOptic(deep))},
	} {
		for _, o := range list {
			checkOptic(t, o, isOpticBy(o))
			checkOpticText(t, opticText(o), isOpticBy(o))
		}
	}
}

func TestParseOpticOfLongTexts(t *testing.T) {
	const long = 1 << 17
	parts := []string{
		"id", "a", "0", "9", "-", "(", ")", ";", "|", ".", "?", " ", "\x00", "\xff", "z9", "at ", "add ", "wrap ", "map ", "map",
		"(id;", "(id|", "(id;id)", "(map ", "map (", ";id", "|id", ";id)", "()", "(;", "((id;", "(.a;", "(at 1|", "map map (id;", "each", "at", "id;", ".a", "?p",
	}
	for _, part := range parts {
		many := strings.Repeat(part, long)
		for _, start := range []string{"", "id", "(", "(id;", "map ", "at ", ".", "wrap ", "(id;id)"} {
			for _, end := range []string{"", "id", ")", ";id)", "|id)", "1"} {
				checkOpticText(t, start+many+end, false)
			}
		}
	}
	pairs := [][2]string{{"(", ";id)"}, {"(id|", ")"}, {"(id;", ")"}, {"map (id;", ")"}, {"(map ", "|id)"}, {"map ", ""}}
	for _, pair := range pairs {
		for _, inner := range []string{"id", "at 1", "", "(id;id)"} {
			checkOpticText(t, strings.Repeat(pair[0], long)+inner+strings.Repeat(pair[1], long), false)
		}
	}
	// Deep enough to leave no room for a call for each bracket.
	for _, open := range []string{"(", "map ", "(id;", "((id|"} {
		checkOpticText(t, strings.Repeat(open, 1<<23), false)
	}
	// As many optics as the depth permits, and far more than an optic has.
	full := nestOptic(idOptic(), mostOpticDepth-1, func(o impl.Optic) impl.Optic { return thenOptic(o, o) })
	checkOpticText(t, opticText(full), false)
	checkOpticText(t, strings.Repeat(opticText(full), 1000), false)
}

// TestFormatOpticOfHugeOptics has optics that are deep, wide, larger than memory, or without end.
func TestFormatOpticOfHugeOptics(t *testing.T) {
	double := func(o impl.Optic) impl.Optic { return thenOptic(o, o) }
	var list []impl.Optic
	for _, around := range append(opticArounds(), double) {
		list = append(list, nestOptic(idOptic(), 60, around))
	}
	for _, around := range opticArounds() {
		list = append(list, nestOptic(idOptic(), 100000, around))
	}
	for kind := range 15 {
		ring := make([]impl.Optic, 1)
		ring[0] = impl.Optic{Kind: kind, Args: ring}
		pair := make([]impl.Optic, 2)
		pair[0], pair[1] = impl.Optic{Kind: kind, Args: pair}, idOptic()
		list = append(list, ring[0], pair[0], impl.Optic{Kind: kind, Args: ids(100000)}, impl.Optic{Kind: kind, Name: strings.Repeat("a", 100000)})
	}
	for _, o := range list {
		for _, o := range []impl.Optic{o, mapOptic(o), thenOptic(idOptic(), o), elseOptic(o, idOptic())} {
			if text := impl.FormatOptic(o); text != "" {
				t.Errorf("FormatOptic of a huge optic is %.50q", text)
			}
		}
	}
	// Parts in the same place are no obstacle to an optic.
	checkOptic(t, nestOptic(fieldOptic("a"), 3, double), true)
}

func TestFormatOpticKeepsItsArgument(t *testing.T) {
	for depth := range 4 {
		for kind := -1; kind <= 15; kind++ {
			o := sparedOptic(kind, depth)
			before := wholeOfOptic(o)
			impl.FormatOptic(o)
			if !reflect.DeepEqual(wholeOfOptic(o), before) {
				t.Errorf("%v became %v", before, wholeOfOptic(o))
			}
		}
	}
	// What is behind the length is not part of the optic.
	if text := impl.FormatOptic(sparedOptic(12, 2)); text != "((id;id);(id|id))" {
		t.Errorf("FormatOptic with unused capacity is %q", text)
	}
}

// overwriteOptic writes into everything that an optic has, up to the capacity.
func overwriteOptic(o impl.Optic) {
	for _, arg := range o.Args {
		overwriteOptic(arg)
	}
	for k := range o.Args[:cap(o.Args)] {
		o.Args[:cap(o.Args)][k] = impl.Optic{Kind: 99}
	}
}

func TestParsedOpticsAreNew(t *testing.T) {
	const part = "(map .a;(at 1|map id))"
	const text = "(" + part + ";" + part + ")"
	first, ok := impl.ParseOptic(text)
	second, isSame := impl.ParseOptic(text)
	if !ok || !isSame {
		t.Fatal("not parsed")
	}
	overwriteOptic(first.Args[0])
	if opticText(first.Args[1]) != part {
		t.Error("two slices of the result share memory")
	}
	overwriteOptic(first)
	third, _ := impl.ParseOptic(text)
	if opticText(second) != text || opticText(third) != text {
		t.Error("two results share memory")
	}
	// Appending to one list must not reach another one.
	_ = append(second.Args[0].Args, addOptic(7))
	_ = append(second.Args[1].Args[1].Args, addOptic(7))
	_ = append(second.Args, addOptic(7))
	if opticText(second) != text {
		t.Error("two slices of the result share unused capacity")
	}
}

func TestOpticTextsShareNoStrings(t *testing.T) {
	text := strings.Clone("((.ab;?cd);(wrap ef|map .ab))")
	o, ok := impl.ParseOptic(text)
	if !ok {
		t.Fatal("not parsed")
	}
	var names []string
	var collect func(impl.Optic)
	collect = func(o impl.Optic) {
		if o.Name != "" {
			names = append(names, o.Name)
		}
		for _, arg := range o.Args {
			collect(arg)
		}
	}
	collect(o)
	if !slices.Equal(names, []string{"ab", "cd", "ef", "ab"}) {
		t.Fatal(names)
	}
	formatted := impl.FormatOptic(o)
	for k, name := range names {
		if shareMemory(text, name) || shareMemory(formatted, name) {
			t.Errorf("%q is in the memory of the text", name)
		}
		for _, other := range names[:k] {
			if shareMemory(name, other) {
				t.Errorf("%q and %q share memory", name, other)
			}
		}
	}
	// A text that is little more than a name is one of its own too.
	for _, o := range []impl.Optic{fieldOptic("abcd"), caseOptic("abcd"), wrapOptic("abcd")} {
		if shareMemory(impl.FormatOptic(o), o.Name) {
			t.Errorf("%q has the memory of the name", impl.FormatOptic(o))
		}
	}
}
