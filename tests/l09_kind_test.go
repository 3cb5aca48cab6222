package tests

import (
	"fmt"
	"math"
	"slices"
	"sync"
	"testing"

	"loop.example/g00592/impl"
)

func fiveKinds() []int {
	return []int{impl.KdIso, impl.KdLens, impl.KdPrism, impl.KdAffine, impl.KdTraversal}
}

// noKinds lists numbers that are no kinds: those next to the kinds, some that are equal to kinds in fewer bits, and the
// greatest and the smallest ones.
func noKinds() []int {
	list := []int{math.MaxInt, math.MaxInt - 1, math.MinInt, math.MinInt + 1}
	for _, base := range []int{-1 << 62, -1 << 32, -1 << 31, -1 << 16, -1 << 8, 1 << 3, 1 << 4, 1 << 8, 1 << 16, 1 << 31, 1 << 32, 1 << 62} {
		for k := -1; k <= 6; k++ {
			list = append(list, base+k)
		}
	}
	for k := 1; k <= 5; k++ {
		list = append(list, -k, math.MinInt+k, math.MaxInt-k)
	}
	for k := -40; k <= 0; k++ {
		list = append(list, k)
	}
	for k := 6; k <= 40; k++ {
		list = append(list, k)
	}
	slices.Sort(list)
	return slices.Compact(list)
}

func kindsAndOthers() []int { return append(fiveKinds(), noKinds()...) }

// What a kind promises of its optics, each as a bit.
const (
	hasFocus = 1 << iota
	hasNoSecond
	canBeBuilt
)

// promisesOf is the meaning of a kind, as chapter 9 describes it; false for other numbers.
func promisesOf(k int) (int, bool) {
	switch k {
	case 1:
		return hasFocus | hasNoSecond | canBeBuilt, true
	case 2:
		return hasFocus | hasNoSecond, true
	case 3:
		return hasNoSecond | canBeBuilt, true
	case 4:
		return hasNoSecond, true
	case 5:
		return 0, true
	}
	return 0, false
}

// isWithinBy is the definition by the meaning: a kind is within those that promise no more than it does.
func isWithinBy(a int, b int) bool {
	ofA, isA := promisesOf(a)
	ofB, isB := promisesOf(b)
	return isA && isB && ofA&ofB == ofB
}

// joinBy is the definition by the meaning: the kind with the promises that both kinds have.
func joinBy(a int, b int) int {
	ofA, isA := promisesOf(a)
	ofB, isB := promisesOf(b)
	for k := 1; k <= 5 && isA && isB; k++ {
		if of, _ := promisesOf(k); of == ofA&ofB {
			return k
		}
	}
	return 0
}

func TestKindConstants(t *testing.T) {
	if !slices.Equal(fiveKinds(), []int{1, 2, 3, 4, 5}) {
		t.Error("kinds", fiveKinds())
	}
}

func TestIsKindTable(t *testing.T) {
	for _, k := range fiveKinds() {
		if !impl.IsKind(k) {
			t.Errorf("IsKind(%d) is false", k)
		}
	}
	for _, k := range noKinds() {
		if impl.IsKind(k) {
			t.Errorf("IsKind(%d) is true", k)
		}
	}
}

func TestKindTextTable(t *testing.T) {
	texts := map[int]string{
		impl.KdIso: "iso", impl.KdLens: "lens", impl.KdPrism: "prism", impl.KdAffine: "affine", impl.KdTraversal: "traversal",
		0: "?", 6: "?", 7: "?", 10: "?", -1: "?", -2: "?", -5: "?", math.MaxInt: "?", math.MinInt: "?",
	}
	for k, want := range texts {
		if got := impl.KindText(k); got != want {
			t.Errorf("KindText(%d) is %q, want %q", k, got, want)
		}
	}
	for _, k := range noKinds() {
		if got := impl.KindText(k); got != "?" {
			t.Errorf("KindText(%d) is %q", k, got)
		}
	}
}

func TestFociRangeTable(t *testing.T) {
	ranges := map[int][2]int{
		impl.KdIso: {1, 1}, impl.KdLens: {1, 1}, impl.KdPrism: {0, 1}, impl.KdAffine: {0, 1}, impl.KdTraversal: {0, -1},
		0: {}, 6: {}, 7: {}, 10: {}, -1: {}, -2: {}, -5: {}, math.MaxInt: {}, math.MinInt: {},
	}
	for k, want := range ranges {
		if least, most := impl.FociRange(k); least != want[0] || most != want[1] {
			t.Errorf("FociRange(%d) is %d, %d, want %d, %d", k, least, most, want[0], want[1])
		}
	}
	for _, k := range noKinds() {
		if least, most := impl.FociRange(k); least != 0 || most != 0 {
			t.Errorf("FociRange(%d) is %d, %d", k, least, most)
		}
	}
}

// TestFociRangesAreWhatKindsPromise compares the numbers of foci with the meaning of the kinds.
func TestFociRangesAreWhatKindsPromise(t *testing.T) {
	for _, k := range fiveKinds() {
		promises, _ := promisesOf(k)
		least, most := impl.FociRange(k)
		if (least == 1) != (promises&hasFocus != 0) || (most == 1) != (promises&hasNoSecond != 0) {
			t.Errorf("FociRange(%d) is %d, %d", k, least, most)
		}
	}
}

func TestIsWithinTable(t *testing.T) {
	// What each of the kinds in order is within.
	table := [5][5]bool{
		{true, true, true, true, true},
		{false, true, false, true, true},
		{false, false, true, true, true},
		{false, false, false, true, true},
		{false, false, false, false, true},
	}
	for i, a := range fiveKinds() {
		for j, b := range fiveKinds() {
			if got := impl.IsWithin(a, b); got != table[i][j] || got != isWithinBy(a, b) {
				t.Errorf("IsWithin(%d, %d) is %v, want %v", a, b, got, table[i][j])
			}
		}
	}
}

func TestJoinKindsTable(t *testing.T) {
	const iso, lens, prism, affine, traversal = 1, 2, 3, 4, 5
	// The joins of each of the kinds in order with each of them.
	table := [5][5]int{
		{iso, lens, prism, affine, traversal},
		{lens, lens, affine, affine, traversal},
		{prism, affine, prism, affine, traversal},
		{affine, affine, affine, affine, traversal},
		{traversal, traversal, traversal, traversal, traversal},
	}
	for i, a := range fiveKinds() {
		for j, b := range fiveKinds() {
			if got := impl.JoinKinds(a, b); got != table[i][j] || got != joinBy(a, b) {
				t.Errorf("JoinKinds(%d, %d) is %d, want %d", a, b, got, table[i][j])
			}
		}
	}
}

// TestLensAndPrismAreNotComparable tests the only two kinds of which neither is within the other one.
func TestLensAndPrismAreNotComparable(t *testing.T) {
	for _, a := range fiveKinds() {
		for _, b := range fiveKinds() {
			areLensAndPrism := a == impl.KdLens && b == impl.KdPrism || a == impl.KdPrism && b == impl.KdLens
			if got := impl.IsWithin(a, b) || impl.IsWithin(b, a); got == areLensAndPrism {
				t.Errorf("one of %d and %d is within the other one: %v", a, b, got)
			}
			// The join of kinds that are comparable is one of them.
			if join := impl.JoinKinds(a, b); (join != a && join != b) != areLensAndPrism {
				t.Errorf("JoinKinds(%d, %d) is %d", a, b, join)
			}
		}
	}
	if impl.JoinKinds(impl.KdLens, impl.KdPrism) != impl.KdAffine || impl.JoinKinds(impl.KdPrism, impl.KdLens) != impl.KdAffine {
		t.Error("the join of lenses and prisms is not the kind of affine optics")
	}
}

// checkLeast checks promise 9 of two kinds, with the exported functions only.
func checkLeast(t *testing.T, a int, b int) {
	t.Helper()
	join := impl.JoinKinds(a, b)
	if !impl.IsKind(join) {
		t.Errorf("JoinKinds(%d, %d) is %d, which is no kind", a, b, join)
	}
	if !impl.IsWithin(a, join) || !impl.IsWithin(b, join) {
		t.Errorf("JoinKinds(%d, %d) is %d, within which not both are", a, b, join)
	}
	for _, k := range fiveKinds() {
		if impl.IsWithin(a, k) && impl.IsWithin(b, k) && !impl.IsWithin(join, k) {
			t.Errorf("JoinKinds(%d, %d) is %d, which is not within %d", a, b, join, k)
		}
	}
}

func TestJoinIsTheLeastKindWithinWhichBothAre(t *testing.T) {
	for _, a := range fiveKinds() {
		for _, b := range fiveKinds() {
			checkLeast(t, a, b)
		}
	}
}

// TestKindsAreInAnOrder tests that IsWithin is an order, with the least and the greatest kind that chapter 9 states.
func TestKindsAreInAnOrder(t *testing.T) {
	for _, a := range fiveKinds() {
		if !impl.IsWithin(a, a) || !impl.IsWithin(impl.KdIso, a) || !impl.IsWithin(a, impl.KdTraversal) {
			t.Errorf("the kind %d is not within itself, or not between the least and the greatest one", a)
		}
		for _, b := range fiveKinds() {
			if a != b && impl.IsWithin(a, b) && impl.IsWithin(b, a) {
				t.Errorf("each of %d and %d is within the other one", a, b)
			}
			for _, c := range fiveKinds() {
				if impl.IsWithin(a, b) && impl.IsWithin(b, c) && !impl.IsWithin(a, c) {
					t.Errorf("%d is within %d, which is within %d, but not within that", a, b, c)
				}
			}
		}
	}
}

// TestJoinsObeyTheirLaws tests what is true of the joins of any order, for other numbers too: their joins are 0, which is no kind.
func TestJoinsObeyTheirLaws(t *testing.T) {
	list := append(fiveKinds(), -1, 0, 6, math.MinInt, math.MaxInt)
	for _, a := range list {
		if got := impl.JoinKinds(a, a); (got == a) != (impl.IsKind(a) || a == 0) {
			t.Errorf("JoinKinds(%d, %d) is %d", a, a, got)
		}
		for _, b := range list {
			if impl.JoinKinds(a, b) != impl.JoinKinds(b, a) {
				t.Errorf("JoinKinds of %d and %d depends on their order", a, b)
			}
			if isJoin := impl.IsKind(b) && impl.JoinKinds(a, b) == b; impl.IsWithin(a, b) != isJoin {
				t.Errorf("IsWithin(%d, %d) is %v", a, b, !isJoin)
			}
			for _, c := range list {
				if impl.JoinKinds(impl.JoinKinds(a, b), c) != impl.JoinKinds(a, impl.JoinKinds(b, c)) {
					t.Errorf("the join of %d, %d and %d depends on where one begins", a, b, c)
				}
			}
		}
	}
}

// TestFociRangesAreWithinOneAnother tests that the optics of a kind have as many foci as each kind permits within which it is.
func TestFociRangesAreWithinOneAnother(t *testing.T) {
	for _, a := range fiveKinds() {
		for _, b := range fiveKinds() {
			leastOfA, mostOfA := impl.FociRange(a)
			leastOfB, mostOfB := impl.FociRange(b)
			isWithin := leastOfB <= leastOfA && (mostOfB == -1 || mostOfA != -1 && mostOfA <= mostOfB)
			if impl.IsWithin(a, b) && !isWithin {
				t.Errorf("%d is within %d, but %d to %d are not within %d to %d", a, b, leastOfA, mostOfA, leastOfB, mostOfB)
			}
		}
	}
}

// TestPairsWithNoKind tests every pair of numbers of which one or both are no kind.
func TestPairsWithNoKind(t *testing.T) {
	for _, a := range kindsAndOthers() {
		for _, b := range noKinds() {
			for _, pair := range [][2]int{{a, b}, {b, a}} {
				if impl.IsWithin(pair[0], pair[1]) {
					t.Errorf("IsWithin(%d, %d) is true", pair[0], pair[1])
				}
				if got := impl.JoinKinds(pair[0], pair[1]); got != 0 {
					t.Errorf("JoinKinds(%d, %d) is %d", pair[0], pair[1], got)
				}
			}
		}
	}
}

// kindResults returns all results of the functions for two numbers as a text.
func kindResults(a int, b int) string {
	least, most := impl.FociRange(a)
	return fmt.Sprint(impl.IsKind(a), impl.IsWithin(a, b), impl.JoinKinds(a, b), impl.KindText(a), least, most)
}

// TestKindResultsDependOnArgumentsOnly calls the functions again after others, and by several goroutines at once.
func TestKindResultsDependOnArgumentsOnly(t *testing.T) {
	list := append(fiveKinds(), -1, 0, 6, math.MinInt, math.MaxInt)
	first := map[[2]int]string{}
	for _, a := range list {
		for _, b := range list {
			first[[2]int{a, b}] = kindResults(a, b)
		}
	}
	var group sync.WaitGroup
	for range 4 {
		group.Go(func() {
			for pair, want := range first {
				if got := kindResults(pair[0], pair[1]); got != want {
					t.Errorf("the results for %v are %s, and were %s", pair, got, want)
				}
			}
		})
	}
	group.Wait()
}
