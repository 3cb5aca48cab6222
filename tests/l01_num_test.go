package tests

import (
	"math"
	"math/big"
	"slices"
	"strings"
	"testing"
	"unsafe"

	"loop.example/g00592/impl"
)

const (
	leastInteger = -999999999999
	mostInteger  = 999999999999
	mostNumber   = 999999
)

// textsOver calls visit with every string of at most most bytes of alphabet.
func textsOver(alphabet string, most int, visit func(string)) {
	var extend func(string)
	extend = func(s string) {
		visit(s)
		for k := 0; k < len(alphabet) && len(s) < most; k++ {
			extend(s + alphabet[k:k+1])
		}
	}
	extend("")
}

// noInteger lists texts that are the representation of no integer at all.
func noInteger() []string {
	return []string{
		"", "-", "--", "+", "007", "00", "01", "-0", "-00", "-01", "-007", "+0", "+1", "--1", "-+1", "1-", "1-2",
		" ", " 1", "1 ", "1\n", "\t1", "- 1", "1 2", "1,2", "1_000", "1.0", "1.", ".1", "1e3", "0x1", "0b1", "0o7", "1a", "a", "a1",
		"\x00", "1\x00", "\x001", "\xff", "1\xff", "\u0661", "\uff11", "\u22121", "nil", "NaN", "Inf",
		strings.Repeat("0", 5000), "-" + strings.Repeat("0", 5000), "0" + strings.Repeat("9", 12),
	}
}

// tooLarge lists texts of integers beyond the limits of ParseInt, some beyond 64 bits.
func tooLarge() []string {
	return []string{
		"1000000000000", "-1000000000000", "9999999999999", "-9999999999999",
		"9223372036854775807", "-9223372036854775807", "-9223372036854775808", "9223372036854775808", "-9223372036854775809",
		"18446744073709551615", "18446744073709551616", "18446744073709551617", "-18446744073709551617", "36893488147419103237",
		strings.Repeat("9", 5000), "-" + strings.Repeat("9", 5000), "1" + strings.Repeat("0", 64),
	}
}

func TestFormatIntTable(t *testing.T) {
	cases := []struct {
		n    int
		want string
	}{
		{0, "0"}, {1, "1"}, {9, "9"}, {10, "10"}, {99, "99"}, {100, "100"}, {1000, "1000"}, {-1, "-1"}, {-5, "-5"}, {-10, "-10"},
		{mostNumber, "999999"}, {mostInteger, "999999999999"}, {leastInteger, "-999999999999"},
		{math.MaxInt, "9223372036854775807"}, {math.MinInt, "-9223372036854775808"}, {math.MinInt + 1, "-9223372036854775807"},
	}
	for _, c := range cases {
		if got := impl.FormatInt(c.n); got != c.want {
			t.Errorf("FormatInt(%d) is %q, want %q", c.n, got, c.want)
		}
	}
}

func TestFormatIntAgreesWithBig(t *testing.T) {
	for shift := 0; shift < 64; shift++ {
		for off := -11; off <= 11; off++ {
			for _, n := range []int{1<<shift + off, -(1 << shift) + off} {
				if got, want := impl.FormatInt(n), big.NewInt(int64(n)).String(); got != want {
					t.Fatalf("FormatInt(%d) is %q, want %q", n, got, want)
				}
			}
		}
	}
}

func TestParseNumberOfEveryNumber(t *testing.T) {
	for n := 0; n <= mostNumber; n++ {
		if got, ok := impl.ParseNumber(impl.FormatInt(n)); got != n || !ok {
			t.Fatalf("ParseNumber of FormatInt(%d) is %d, %v", n, got, ok)
		}
	}
}

func TestParseNumberLimits(t *testing.T) {
	if n, ok := impl.ParseNumber("999999"); n != mostNumber || !ok {
		t.Errorf("ParseNumber at its limit is %d, %v", n, ok)
	}
	if n, ok := impl.ParseNumber("0"); n != 0 || !ok {
		t.Errorf("ParseNumber(\"0\") is %d, %v", n, ok)
	}
	invalid := []string{"1000000", "1000001", "9999999", "-1", "-5", "-999999", "999999999999", "-999999999999"}
	for _, s := range slices.Concat(invalid, noInteger(), tooLarge()) {
		if n, ok := impl.ParseNumber(s); n != 0 || ok {
			t.Errorf("ParseNumber(%q) is %d, %v, want 0, false", s, n, ok)
		}
	}
}

func TestParseIntLeadsBack(t *testing.T) {
	check := func(n int) {
		if got, ok := impl.ParseInt(impl.FormatInt(n)); got != n || !ok {
			t.Fatalf("ParseInt of FormatInt(%d) is %d, %v", n, got, ok)
		}
	}
	for n := -12000; n <= 12000; n++ {
		check(n)
	}
	for power := 10; power <= mostInteger; power *= 10 {
		for _, n := range []int{power - 1, power, power + 1} {
			check(n)
			check(-n)
		}
	}
	for n := leastInteger; n <= mostInteger; n += 98765432 {
		check(n)
	}
}

func TestParseIntLimits(t *testing.T) {
	for s, want := range map[string]int{"999999999999": mostInteger, "-999999999999": leastInteger, "0": 0, "-1": -1, "1000000": 1000000} {
		if n, ok := impl.ParseInt(s); n != want || !ok {
			t.Errorf("ParseInt(%q) is %d, %v, want %d, true", s, n, ok, want)
		}
	}
	for _, s := range slices.Concat(noInteger(), tooLarge()) {
		if n, ok := impl.ParseInt(s); n != 0 || ok {
			t.Errorf("ParseInt(%q) is %d, %v, want 0, false", s, n, ok)
		}
	}
}

// TestParseAgreesWithFormat compares both parsers with the definition, for all short texts:
// they accept exactly what FormatInt returns for the integer.
func TestParseAgreesWithFormat(t *testing.T) {
	formatted := map[string]int{}
	for n := -9999; n <= 99999; n++ {
		formatted[impl.FormatInt(n)] = n
	}
	textsOver("0179-+ _x\x00\xff", 5, func(s string) {
		want, isInt := formatted[s]
		if n, ok := impl.ParseInt(s); n != want || ok != isInt {
			t.Errorf("ParseInt(%q) is %d, %v, want %d, %v", s, n, ok, want, isInt)
		}
		isNumber := isInt && want >= 0
		if !isNumber {
			want = 0
		}
		if n, ok := impl.ParseNumber(s); n != want || ok != isNumber {
			t.Errorf("ParseNumber(%q) is %d, %v, want %d, %v", s, n, ok, want, isNumber)
		}
	})
}

func TestSplitByteTable(t *testing.T) {
	cases := []struct {
		s    string
		by   byte
		want []string
	}{
		{"", ',', []string{""}},
		{"a", ',', []string{"a"}},
		{"a,b", ',', []string{"a", "b"}},
		{"ab,c,def", ',', []string{"ab", "c", "def"}},
		{",", ',', []string{"", ""}},
		{",a", ',', []string{"", "a"}},
		{"a,", ',', []string{"a", ""}},
		{",a,", ',', []string{"", "a", ""}},
		{"a,,b", ',', []string{"a", "", "b"}},
		{",,,", ',', []string{"", "", "", ""}},
		{"a\nb\n", '\n', []string{"a", "b", ""}},
		{"a\x00b", 0, []string{"a", "b"}},
		{"a\xffb\xfe", 0xff, []string{"a", "b\xfe"}},
		{"\u00e9\u00e8", 0xc3, []string{"", "\xa9", "\xa8"}},
		{"\u00e9\u00e8", 0xa9, []string{"\xc3", "\u00e8"}},
		{"\u00e9", 0xe9, []string{"\u00e9"}},
	}
	for _, c := range cases {
		if got := impl.SplitByte(c.s, c.by); !slices.Equal(got, c.want) {
			t.Errorf("SplitByte(%q, %q) is %q, want %q", c.s, c.by, got, c.want)
		}
	}
}

func TestSplitByteAtEveryByte(t *testing.T) {
	for by := range 256 {
		sep := string([]byte{byte(by)})
		other := string([]byte{byte(by + 1), byte(by + 128)})
		want := []string{"", other, "", other + other, ""}
		s := sep + other + sep + sep + other + other + sep
		if got := impl.SplitByte(s, byte(by)); !slices.Equal(got, want) {
			t.Errorf("SplitByte(%q, %d) is %q, want %q", s, by, got, want)
		}
	}
}

func TestJoinTable(t *testing.T) {
	cases := []struct {
		list []string
		by   string
		want string
	}{
		{nil, ",", ""},
		{[]string{}, ",", ""},
		{[]string{""}, ",", ""},
		{[]string{"a"}, ",", "a"},
		{[]string{"a", "b"}, "-", "a-b"},
		{[]string{"a", "b", "c"}, ", ", "a, b, c"},
		{[]string{"a", "b"}, "", "ab"},
		{[]string{"", ""}, ",", ","},
		{[]string{"", "a", ""}, ",", ",a,"},
		{[]string{"a,b", "c"}, ",", "a,b,c"},
		{[]string{"\xff", "\x00"}, "\xfe\x00", "\xff\xfe\x00\x00"},
	}
	for _, c := range cases {
		if got := impl.Join(c.list, c.by); got != c.want {
			t.Errorf("Join(%q, %q) is %q, want %q", c.list, c.by, got, c.want)
		}
	}
}

func TestJoinLeadsBackFromSplitByte(t *testing.T) {
	textsOver("a,\x00\xc3\xff", 6, func(s string) {
		for _, by := range []byte{',', 0, 0xc3, 0xff, 'z'} {
			sep := string([]byte{by})
			parts := impl.SplitByte(s, by)
			if len(parts) != strings.Count(s, sep)+1 {
				t.Errorf("SplitByte(%q, %q) has %d elements", s, by, len(parts))
			}
			for _, part := range parts {
				if strings.Contains(part, sep) {
					t.Errorf("SplitByte(%q, %q) has the separator in %q", s, by, part)
				}
			}
			if got := impl.Join(parts, sep); got != s {
				t.Errorf("Join of SplitByte(%q, %q) is %q", s, by, got)
			}
		}
	})
}

func TestSplitByteLeadsBackFromJoin(t *testing.T) {
	var parts []string
	textsOver("a\xff", 2, func(s string) { parts = append(parts, s) })
	for _, a := range parts {
		for _, b := range parts {
			for _, c := range parts {
				for _, list := range [][]string{{a}, {a, b}, {a, b, c}} {
					if got := impl.SplitByte(impl.Join(list, ";"), ';'); !slices.Equal(got, list) {
						t.Errorf("SplitByte of Join(%q) is %q", list, got)
					}
				}
			}
		}
	}
}

// TestJoinKeepsList looks at the unused capacity too.
func TestJoinKeepsList(t *testing.T) {
	whole := []string{"a", "b", "c", "d"}
	if got := impl.Join(whole[1:3:4], "-"); got != "b-c" {
		t.Errorf("Join is %q", got)
	}
	if !slices.Equal(whole, []string{"a", "b", "c", "d"}) {
		t.Errorf("Join changed its list to %q", whole)
	}
}

func TestSplitByteResultsAreSeparate(t *testing.T) {
	first := impl.SplitByte("a,b,c", ',')
	second := impl.SplitByte("a,b,c", ',')
	for k := range first {
		first[k] = "x"
	}
	_ = append(second[:1], "y")
	if got := impl.SplitByte("a,b,c", ','); !slices.Equal(got, []string{"a", "b", "c"}) {
		t.Errorf("SplitByte after changes of earlier results is %q", got)
	}
	if second[0] != "a" || second[2] != "c" {
		t.Errorf("a result of SplitByte changed with another one: %q", second)
	}
}

// shareMemory reports whether the bytes of part lie in the memory of whole.
func shareMemory(whole string, part string) bool {
	for k := range len(whole) {
		if len(part) > 0 && unsafe.StringData(whole[k:]) == unsafe.StringData(part) {
			return true
		}
	}
	return false
}

func TestResultsShareNoMemory(t *testing.T) {
	s := strings.Repeat("ab,", 20)
	for _, by := range []byte{',', 'z'} {
		for _, part := range impl.SplitByte(s, by) {
			if shareMemory(s, part) {
				t.Errorf("SplitByte at %q returns the memory of its argument in %q", by, part)
			}
		}
	}
	if shareMemory(s, impl.Join([]string{s}, ",")) {
		t.Error("Join of one element returns the memory of this element")
	}
}
