package impl

import (
	"strconv"
	"strings"
)

const (
	maxNumber  = 999999
	maxInteger = 999999999999
)

func FormatInt(n int) string { return strconv.Itoa(n) }

func ParseNumber(s string) (int, bool) {
	// The results have no names: a recovered panic leaves them 0 and false.
	defer func() { recover() }()
	return integerWithin(s, 0, maxNumber), true
}

func ParseInt(s string) (int, bool) {
	// As in ParseNumber, a recovered panic leaves the results 0 and false.
	defer func() { recover() }()
	return integerWithin(s, -maxInteger, maxInteger), true
}

// integerWithin panics if there is no integer from least to most whose FormatInt is s.
func integerWithin(s string, least int, most int) int {
	n, err := strconv.Atoi(s)
	// Atoi accepts "+1", "007" and "-0" too, which no integer is formatted as.
	if err != nil || n < least || n > most || FormatInt(n) != s {
		panic("malformed integer")
	}
	return n
}

func SplitByte(s string, by byte) []string {
	// string(by) would be the two bytes of a rune for bytes from 128 on.
	parts := strings.Split(s, string([]byte{by}))
	for k, part := range parts {
		// A part must not share the memory of s.
		parts[k] = strings.Clone(part)
	}
	return parts
}

func Join(list []string, by string) string {
	// strings.Join returns the element itself for a list of one, which would share its memory.
	var b strings.Builder
	for k, part := range list {
		if k > 0 {
			b.WriteString(by)
		}
		b.WriteString(part)
	}
	return b.String()
}
