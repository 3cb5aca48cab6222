package tests

import (
	"regexp"
	"slices"
	"strings"
	"testing"

	"loop.example/g00592/impl"
)

// mostName is the limit as the specification states it.
const mostName = 4

// listsOver calls visit with every list of at most most elements of names, in a slice of its own.
func listsOver(names []string, most int, visit func([]string)) {
	var extend func([]string)
	extend = func(list []string) {
		visit(slices.Clone(list))
		for k := 0; k < len(names) && len(list) < most; k++ {
			extend(append(slices.Clone(list), names[k]))
		}
	}
	extend(nil)
}

// orderedNames lists strings in the order of their bytes, among them some that are no names.
func orderedNames() []string {
	return []string{"", "\x00", "0", "A", "a", "a\x00", "a0", "aa", "ab", "b", "z", "\u00e9", "\xff"}
}

func TestMaxName(t *testing.T) {
	if impl.MaxName != mostName {
		t.Errorf("MaxName is %d", impl.MaxName)
	}
}

func TestIsNameTable(t *testing.T) {
	names := []string{"a", "z", "m", "a0", "z9", "ab", "aaa", "abcd", "zzzz", "a123", "z999", "a1b2", "x0"}
	for _, s := range names {
		if !impl.IsName(s) {
			t.Errorf("IsName(%q) is false", s)
		}
	}
	others := []string{
		"", "abcde", "a1234", "zzzzz", strings.Repeat("a", 5000), "0", "9", "1a", "0abc", "12", "1234",
		"A", "Z", "aB", "Ab", "abcD", "a_", "_a", "a-", "-a", "a b", " a", "a ", "a\n", "\na", "a.b", ".", "?", "-", " ",
		"`", "{", "/", ":", "a`", "a{", "a/", "a:", "\x00", "a\x00", "\x00a", "a\x00b",
		"\xff", "a\xff", "\xffa", "ab\xc3", "abc\xe9", "abcd\xff", "\xe1", "a\x80", "a\xe1", "a\xb0",
		"\u00e9", "a\u00e9", "\u00e9a", "\u0430", "a\u0661", "a\u00b2", "\uff41", "a\uff11", "\u0161", "\u0261", "a\u0130", "a\U00010061", "\ufffd",
	}
	for _, s := range others {
		if impl.IsName(s) {
			t.Errorf("IsName(%q) is true", s)
		}
	}
}

func TestIsNameAgreesWithDefinition(t *testing.T) {
	name := regexp.MustCompile(`\A[a-z][a-z0-9]{0,3}\z`)
	textsOver("amz059A_`{/:\n\xc3\xa9\xff", mostName+1, func(s string) {
		if got, want := impl.IsName(s), name.MatchString(s); got != want {
			t.Fatalf("IsName(%q) is %v", s, got)
		}
	})
}

func TestIsNameAtEveryByteAndRune(t *testing.T) {
	check := func(char string, letter bool, digit bool) {
		wants := map[string]bool{
			char:               letter,
			char + "b":         letter,
			char + "1cd":       letter,
			"a" + char:         letter || digit,
			"a" + char + "b":   letter || digit,
			"a2" + char:        letter || digit,
			"abc" + char:       letter || digit,
			"abcd" + char:      false,
			"7" + char:         false,
			char + "bcde":      false,
			char + char + char: letter,
		}
		for s, want := range wants {
			if impl.IsName(s) != want {
				t.Fatalf("IsName(%q) is not %v", s, want)
			}
		}
	}
	for b := range 256 {
		check(string([]byte{byte(b)}), 'a' <= b && b <= 'z', '0' <= b && b <= '9')
	}
	for r := rune(128); r <= 0x1ffff; r++ {
		check(string([]rune{r}), false, false)
	}
}

func TestIndexOfTable(t *testing.T) {
	cases := []struct {
		list []string
		s    string
		want int
	}{
		{nil, "a", -1},
		{nil, "", -1},
		{[]string{}, "a", -1},
		{[]string{"a"}, "a", 0},
		{[]string{"a"}, "b", -1},
		{[]string{"a"}, "", -1},
		{[]string{"a"}, "A", -1},
		{[]string{"a"}, "aa", -1},
		{[]string{"aa"}, "a", -1},
		{[]string{"a", "b", "c"}, "a", 0},
		{[]string{"a", "b", "c"}, "b", 1},
		{[]string{"a", "b", "c"}, "c", 2},
		{[]string{"c", "a", "b"}, "a", 1},
		{[]string{"c", "a", "b"}, "b", 2},
		{[]string{"a", "b", "a", "b"}, "b", 1},
		{[]string{"b", "a", "a"}, "a", 1},
		{[]string{"a", "", ""}, "", 1},
		{[]string{"a\x00", "a"}, "a", 1},
		{[]string{"\xfe", "\xff"}, "\xff", 1},
		{[]string{"\xff"}, "\ufffd", -1},
	}
	for _, c := range cases {
		if got := impl.IndexOf(c.list, c.s); got != c.want {
			t.Errorf("IndexOf(%q, %q) is %d, want %d", c.list, c.s, got, c.want)
		}
	}
}

func TestAreAscendingTable(t *testing.T) {
	ascending := [][]string{nil, {}, {""}, {"b"}, {"", "a"}, {"a", "b"}, {"a", "aa"}, {"a9", "aa"}, {"Z", "a"}, {"a", "b", "c"}, orderedNames()}
	for _, list := range ascending {
		if !impl.AreAscending(list) {
			t.Errorf("AreAscending(%q) is false", list)
		}
	}
	others := [][]string{
		{"", ""}, {"a", "a"}, {"b", "a"}, {"a", ""}, {"aa", "a"}, {"a", "Z"}, {"a", "a", "b"}, {"a", "b", "b"},
		{"b", "a", "c"}, {"a", "c", "b"}, {"a", "b", "a"}, {"\xff", "\u00e9"}, append(orderedNames(), "\xff"),
	}
	for _, list := range others {
		if impl.AreAscending(list) {
			t.Errorf("AreAscending(%q) is true", list)
		}
	}
}

func TestInsertNameTable(t *testing.T) {
	cases := []struct {
		list []string
		s    string
		want []string
	}{
		{nil, "a", []string{"a"}},
		{[]string{}, "", []string{""}},
		{[]string{"b", "d"}, "a", []string{"a", "b", "d"}},
		{[]string{"b", "d"}, "b", []string{"b", "d"}},
		{[]string{"b", "d"}, "c", []string{"b", "c", "d"}},
		{[]string{"b", "d"}, "d", []string{"b", "d"}},
		{[]string{"b", "d"}, "e", []string{"b", "d", "e"}},
		{[]string{"b", "d"}, "", []string{"", "b", "d"}},
		{[]string{"", "b"}, "", []string{"", "b"}},
		{[]string{"a", "aaa"}, "aa", []string{"a", "aa", "aaa"}},
		{[]string{"aa"}, "a", []string{"a", "aa"}},
		{[]string{"a"}, "a\x00", []string{"a", "a\x00"}},
		{[]string{"a", "b"}, "a9", []string{"a", "a9", "b"}},
		{[]string{"a", "b"}, "B", []string{"B", "a", "b"}},
		{[]string{"a", "\xff"}, "\u00e9", []string{"a", "\u00e9", "\xff"}},
		// The order matters up to the first element that is not less, and nothing behind it does.
		{[]string{"c", "a", "b"}, "b", []string{"b", "c", "a", "b"}},
		{[]string{"a", "d", "b"}, "c", []string{"a", "c", "d", "b"}},
		{[]string{"a", "d", "c"}, "c", []string{"a", "c", "d", "c"}},
		{[]string{"c", "b", "a"}, "d", []string{"c", "b", "a", "d"}},
		{[]string{"c", "b", "a"}, "c", []string{"c", "b", "a"}},
		{[]string{"b", "a", "c"}, "c", []string{"b", "a", "c"}},
		{[]string{"b", "a", "c", "c"}, "c", []string{"b", "a", "c", "c"}},
		{[]string{"a", "a", "a"}, "a", []string{"a", "a", "a"}},
		{[]string{"a", "a", "a"}, "b", []string{"a", "a", "a", "b"}},
		{[]string{"b", "b"}, "a", []string{"a", "b", "b"}},
		{[]string{"a", "b", "a", "b"}, "b", []string{"a", "b", "a", "b"}},
	}
	for _, c := range cases {
		if got := impl.InsertName(c.list, c.s); !slices.Equal(got, c.want) {
			t.Errorf("InsertName(%q, %q) is %q, want %q", c.list, c.s, got, c.want)
		}
	}
}

func TestWithoutNameTable(t *testing.T) {
	cases := []struct {
		list []string
		s    string
		want []string
	}{
		{nil, "a", nil},
		{[]string{}, "", nil},
		{[]string{"a"}, "a", nil},
		{[]string{"a"}, "b", []string{"a"}},
		{[]string{"a"}, "", []string{"a"}},
		{[]string{"", "a", ""}, "", []string{"a"}},
		{[]string{"a", "b", "c"}, "a", []string{"b", "c"}},
		{[]string{"a", "b", "c"}, "b", []string{"a", "c"}},
		{[]string{"a", "b", "c"}, "c", []string{"a", "b"}},
		{[]string{"a", "b", "a"}, "a", []string{"b"}},
		{[]string{"a", "b", "a"}, "b", []string{"a", "a"}},
		{[]string{"b", "a", "a", "b"}, "a", []string{"b", "b"}},
		{[]string{"a", "a", "a"}, "a", nil},
		{[]string{"c", "a", "b"}, "b", []string{"c", "a"}},
		{[]string{"a", "aa", "A", "a\x00"}, "a", []string{"aa", "A", "a\x00"}},
		{[]string{"\xff", "\xfe", "\xff"}, "\xff", []string{"\xfe"}},
	}
	for _, c := range cases {
		if got := impl.WithoutName(c.list, c.s); !slices.Equal(got, c.want) {
			t.Errorf("WithoutName(%q, %q) is %q, want %q", c.list, c.s, got, c.want)
		}
	}
}

// TestNamesOfEveryShortList compares the results with the words of the specification, for unordered lists too.
func TestNamesOfEveryShortList(t *testing.T) {
	listsOver([]string{"", "a", "ab", "b", "c"}, 4, func(list []string) {
		ascending := true
		for k := range list {
			ascending = ascending && (k == 0 || strings.Compare(list[k-1], list[k]) < 0)
		}
		if got := impl.AreAscending(list); got != ascending {
			t.Errorf("AreAscending(%q) is %v", list, got)
		}
		for _, s := range []string{"", "a", "aa", "ab", "b", "bb", "c", "d"} {
			checkNames(t, list, s)
		}
	})
}

func checkNames(t *testing.T, list []string, s string) {
	t.Helper()
	index, place := -1, len(list)
	var others []string
	for k := len(list) - 1; k >= 0; k-- {
		if list[k] == s {
			index = k
		} else {
			others = append([]string{list[k]}, others...)
		}
		if strings.Compare(list[k], s) >= 0 {
			place = k
		}
	}
	inserted := slices.Concat(list[:place], []string{s}, list[place:])
	if place < len(list) && list[place] == s {
		inserted = list
	}
	if got := impl.IndexOf(list, s); got != index {
		t.Errorf("IndexOf(%q, %q) is %d, want %d", list, s, got, index)
	}
	if got := impl.InsertName(list, s); !slices.Equal(got, inserted) {
		t.Errorf("InsertName(%q, %q) is %q, want %q", list, s, got, inserted)
	}
	if got := impl.WithoutName(list, s); !slices.Equal(got, others) {
		t.Errorf("WithoutName(%q, %q) is %q, want %q", list, s, got, others)
	}
}

// TestInsertedNameIsRemovedAgain is promise 2, for all lists in ascending order of some of the names.
func TestInsertedNameIsRemovedAgain(t *testing.T) {
	all := orderedNames()
	for bits := range 1 << len(all) {
		var list []string
		for k, name := range all {
			if bits>>k&1 == 1 {
				list = append(list, name)
			}
		}
		for k, s := range all {
			had := bits>>k&1 == 1
			with := impl.InsertName(list, s)
			if !impl.AreAscending(with) || impl.IndexOf(with, s) < 0 || had != slices.Equal(with, list) {
				t.Fatalf("InsertName(%q, %q) is %q", list, s, with)
			}
			without := impl.WithoutName(with, s)
			if !impl.AreAscending(without) || impl.IndexOf(without, s) != -1 || had == slices.Equal(without, list) {
				t.Fatalf("WithoutName(%q, %q) is %q", with, s, without)
			}
			if had && !slices.Equal(impl.InsertName(without, s), list) {
				t.Fatalf("%q is not inserted again into %q", s, without)
			}
		}
	}
}

// TestNamesKeepTheirList looks at the unused capacity and at what is in front of the list too.
func TestNamesKeepTheirList(t *testing.T) {
	original := []string{"x", "b", "d", "b", "y", "z"}
	for from := range original {
		for to := from; to <= len(original); to++ {
			for _, s := range []string{"", "a", "b", "c", "d", "e", "x", "z", "zz"} {
				whole := slices.Clone(original)
				list := whole[from:to]
				impl.IndexOf(list, s)
				impl.AreAscending(list)
				impl.InsertName(list, s)
				impl.WithoutName(list, s)
				if !slices.Equal(whole, original) {
					t.Fatalf("with %q and the list from %d to %d the array became %q", s, from, to, whole)
				}
			}
		}
	}
}

// TestNameListsAreNew writes into the results, up to their capacity, and looks at the arguments and at other results.
func TestNameListsAreNew(t *testing.T) {
	functions := []func([]string, string) []string{impl.InsertName, impl.WithoutName}
	for _, function := range functions {
		for _, s := range []string{"a", "b", "c", "d", "e"} {
			whole := []string{"b", "d", "y", "z"}
			first, second := function(whole[:2], s), function(whole[:2], s)
			kept := slices.Clone(second)
			first = first[:cap(first)]
			for k := range first {
				first[k] = "x"
			}
			if !slices.Equal(whole, []string{"b", "d", "y", "z"}) {
				t.Errorf("with %q the argument shares memory with the result: %q", s, whole)
			}
			if !slices.Equal(second, kept) {
				t.Errorf("with %q two results share memory: %q", s, second)
			}
		}
	}
}

func TestNamesShareNoMemory(t *testing.T) {
	b, c, d := strings.Repeat("b", 9), strings.Repeat("c", 9), strings.Repeat("d", 9)
	for _, s := range []string{b, c, d} {
		results := slices.Concat(impl.InsertName([]string{b, d}, s), impl.WithoutName([]string{b, d}, s))
		for _, name := range results {
			if shareMemory(b, name) || shareMemory(d, name) || shareMemory(s, name) {
				t.Errorf("with %q the result has %q in the memory of an argument", s, name)
			}
		}
	}
}
