package tests

import (
	"math"
	"math/big"
	"math/rand"
	"slices"
	"strings"
	"testing"

	"loop.example/g00811/impl"
)

// numbersOf reads numbers that are separated by spaces, with signs behind them as placesOf has it.
func numbersOf(t *testing.T, s string) []*big.Rat {
	t.Helper()
	var l []*big.Rat
	for _, part := range strings.Fields(s) {
		l = append(l, placesOf(t, part+",0")[0].x)
	}
	return l
}

func ratsOf(l []*big.Rat) []impl.Rat {
	var rats []impl.Rat
	for _, q := range l {
		rats = append(rats, ratOf(q))
	}
	return rats
}

func bigRatsOf(l []impl.Rat) []*big.Rat {
	var numbers []*big.Rat
	for _, r := range l {
		numbers = append(numbers, bigRatOf(r))
	}
	return numbers
}

func sameRats(l, m []impl.Rat) bool { return slices.EqualFunc(l, m, sameRat) }

func clonedRats(l []impl.Rat) []impl.Rat {
	var m []impl.Rat
	for _, r := range l {
		m = append(m, clonedRat(r))
	}
	return m
}

func textOfRats(l []impl.Rat) string {
	var parts []string
	for _, r := range l {
		parts = append(parts, impl.FormatRat(r))
	}
	return strings.Join(parts, " ")
}

// different are the numbers of l in ascending order, each once.
func different(l []*big.Rat) []*big.Rat {
	var sorted []*big.Rat
	for _, q := range l {
		less := 0
		for less < len(sorted) && sorted[less].Cmp(q) < 0 {
			less++
		}
		if less == len(sorted) || sorted[less].Cmp(q) != 0 {
			sorted = slices.Insert(sorted, less, q)
		}
	}
	return sorted
}

// nearNumbers are in ascending order. Neighbours differ in one limb only, the first or the last one of the numerator or
// the denominator, or they are so long that their difference is no valid fraction.
func nearNumbers() []*big.Rat {
	of := func(num, den []int) *big.Rat { return new(big.Rat).SetFrac(bigOf(num), bigOf(den)) }
	withFirst := func(limb int) []int { return append([]int{limb}, repeated(5, impl.MaxRat-1)...) }
	withLast := func(limb int) []int { return append(repeated(5, impl.MaxRat-1), limb) }
	one, seven := []int{1}, append([]int{7}, unit(22)...)
	positive := []*big.Rat{
		of(one, longest()), of(one, withLast(9)), of(one, withLast(8)), of(one, withFirst(4)), of(one, withFirst(3)),
		of(one, unit(2)), of(one, []int{limbTop, limbTop}), of(one, []int{limbTop - 1, limbTop}), big.NewRat(1, 3), big.NewRat(1, 2),
		of(withFirst(1), seven), of(withFirst(2), seven), of(withFirst(1), one), of(withFirst(2), one), of(withFirst(3), one),
		of(withLast(6), one), of(withLast(7), one), of(withLast(limbTop), one), of(longest(), one),
	}
	positive = different(positive)
	l := []*big.Rat{new(big.Rat)}
	for _, q := range positive {
		l = append(append([]*big.Rat{new(big.Rat).Neg(q)}, l...), q)
	}
	return l
}

func TestNearNumbersAreLong(t *testing.T) {
	l, tooLong := nearNumbers(), 0
	for i, q := range l {
		if isZeroRat(ratOf(q)) || i > 0 && l[i-1].Cmp(q) >= 0 {
			t.Fatalf("%v is no valid fraction, or not greater than the one before it", q)
		}
		if i > 0 && isZeroRat(impl.RatSub(ratOf(q), ratOf(l[i-1]))) {
			tooLong++
		}
	}
	if tooLong < 8 {
		t.Errorf("only %d neighbours have a difference that is too long", tooLong)
	}
}

func checkSorted(t *testing.T, name string, l []impl.Rat) {
	t.Helper()
	got, want := impl.SortRats(l), ratsOf(different(bigRatsOf(l)))
	if !sameRats(got, want) {
		t.Fatalf("%s: SortRats of %s is %s, want %s", name, textOfRats(l), textOfRats(got), textOfRats(want))
	}
	if !impl.IsAscending(got) {
		t.Fatalf("%s: IsAscending of the sorted list %s is false", name, textOfRats(got))
	}
}

func TestSortRats(t *testing.T) {
	cases := []struct{ name, l, want string }{
		{"no element", "", ""},
		{"one element", "7", "7"},
		{"one element that is 0", "0", "0"},
		{"two elements", "1/2 1/3", "1/3 1/2"},
		{"two equal elements", "-1/2 -1/2", "-1/2"},
		{"all elements equal", "3/7 3/7 3/7 3/7 3/7", "3/7"},
		{"all elements 0", "0 0 0", "0"},
		{"ascending", "-9/2 -1 0 1/3 1/2 8", "-9/2 -1 0 1/3 1/2 8"},
		{"descending", "8 1/2 1/3 0 -1 -9/2", "-9/2 -1 0 1/3 1/2 8"},
		{"no order", "1/2 -1 8 -9/2 1/3 0", "-9/2 -1 0 1/3 1/2 8"},
		{"equal elements far apart", "5 1 3 2 4 5 0 1 5", "0 1 2 3 4 5"},
		{"equal elements side by side", "2 2 1 1 1 3 3", "1 2 3"},
		{"equal elements at both ends", "-4 7 1 -4", "-4 1 7"},
		{"negative numbers", "-1/3 -1/2 -2 -3/2 -1", "-2 -3/2 -1 -1/2 -1/3"},
		{"opposite numbers", "2 -2 1 -1 1/2 -1/2", "-2 -1 -1/2 1/2 1 2"},
		{"the same numerator", "7/3 7/2 7/5 7", "7/5 7/3 7/2 7"},
		{"the same denominator", "7/3 -1/3 4/3 2/3", "-1/3 2/3 4/3 7/3"},
		{"a hair apart", "3+ 3 3- 3 3+ 2", "2 3- 3 3+"},
		{"two limbs", "1000000001 1000000000 999999999 2000000000", "999999999 1000000000 1000000001 2000000000"},
		{"not as texts", "10 9 100 -9 -10", "-10 -9 9 10 100"},
	}
	for _, c := range cases {
		l := ratsOf(numbersOf(t, c.l))
		checkSorted(t, c.name, l)
		if got, want := impl.SortRats(l), ratsOf(numbersOf(t, c.want)); !sameRats(got, want) {
			t.Errorf("%s: SortRats of %s is %s, want %s", c.name, c.l, textOfRats(got), c.want)
		}
	}
}

// shortNumbers begin with what is no valid fraction.
func shortNumbers() []impl.Rat {
	return []impl.Rat{{}, impl.RatOf(-3, 2), impl.RatFromInt(0), impl.RatOf(1, 3), impl.RatOf(1, 2)}
}

// forAllRatLists calls look with every list of at most most of the short numbers. The choices are their places.
func forAllRatLists(most int, look func(l []impl.Rat, choices []int)) {
	numbers := shortNumbers()
	forAllLists(gridOf(impl.Vec{}, impl.Vec{X: len(numbers) - 1}), most, func(points []impl.Vec) {
		var l []impl.Rat
		var choices []int
		for _, p := range points {
			l, choices = append(l, numbers[p.X]), append(choices, p.X)
		}
		look(l, choices)
	})
}

func TestSortRatsOnAllShortLists(t *testing.T) {
	forAllRatLists(5, func(l []impl.Rat, choices []int) {
		want := ratsFromChoices(slices.Compact(slices.Sorted(slices.Values(choices))))
		if slices.Contains(choices, 0) {
			want = nil
		}
		if got := impl.SortRats(l); !sameRats(got, want) {
			t.Fatalf("SortRats(%v) = %v, want %v", l, got, want)
		}
	})
}

func ratsFromChoices(choices []int) []impl.Rat {
	var l []impl.Rat
	for _, choice := range choices {
		l = append(l, shortNumbers()[choice])
	}
	return l
}

func TestSortRatsOfLongFractions(t *testing.T) {
	near := ratsOf(nearNumbers())
	checkSorted(t, "near numbers", near)
	slices.Reverse(near)
	checkSorted(t, "near numbers, descending", near)
	checkSorted(t, "all edge cases", edgeRats())
	for i, r := range near {
		for _, s := range near[i:] {
			checkSorted(t, "a pair", []impl.Rat{r, s})
			checkSorted(t, "a pair, twice", []impl.Rat{s, r, s, r})
		}
	}
}

func TestSortRatsGivesTheDifferentElements(t *testing.T) {
	random := rand.New(rand.NewSource(140))
	near, edges := ratsOf(nearNumbers()), edgeRats()
	for range 300 {
		var l []impl.Rat
		for range random.Intn(40) {
			number := []impl.Rat{near[random.Intn(len(near))], edges[random.Intn(len(edges))], impl.RatOf(random.Intn(9)-4, 1+random.Intn(4)), randomRat(random, 24)}
			l = append(l, number[random.Intn(4)])
		}
		checkSorted(t, "a random list", l)
	}
	var long []impl.Rat
	for range 2000 {
		long = append(long, impl.RatOf(random.Intn(2001)-1000, 1+random.Intn(3)))
	}
	checkSorted(t, "a long list", long)
}

func TestSortRatsRefusesWhatIsNoFraction(t *testing.T) {
	lists := [][]impl.Rat{{}, {impl.RatFromInt(1)}, ratsOf(numbersOf(t, "0 1/2 3 7")), ratsOf(numbersOf(t, "3 3 1 0 1/2")), ratsOf(nearNumbers())}
	for _, bad := range badRats() {
		for _, l := range lists {
			for _, k := range []int{0, len(l) / 2, len(l)} {
				if got := impl.SortRats(slices.Insert(slices.Clone(l), k, bad)); len(got) != 0 {
					t.Errorf("SortRats of %s with %v at %d is %s", textOfRats(l), bad, k, textOfRats(got))
				}
			}
		}
		if got := impl.SortRats([]impl.Rat{bad, bad}); len(got) != 0 {
			t.Errorf("SortRats of %v twice is %s", bad, textOfRats(got))
		}
	}
}

func TestIsAscending(t *testing.T) {
	cases := []struct {
		name, l string
		want    bool
	}{
		{"no element", "", true},
		{"one element", "-7/3", true},
		{"two elements", "-1 1", true},
		{"two elements, descending", "1 -1", false},
		{"two equal elements", "1/2 1/2", false},
		{"two elements that are 0", "0 0", false},
		{"ascending", "-9/2 -1 0 1/3 1/2 8", true},
		{"descending", "8 1/2 1/3 0 -1 -9/2", false},
		{"the first two exchanged", "-1 -9/2 0 1/3 1/2 8", false},
		{"two in the middle exchanged", "-9/2 -1 1/3 0 1/2 8", false},
		{"the last two exchanged", "-9/2 -1 0 1/3 8 1/2", false},
		{"the first two equal", "-1 -1 0 1/3", false},
		{"two in the middle equal", "-1 0 0 1/3", false},
		{"the last two equal", "-1 0 1/3 1/3", false},
		{"the first greater than the last, but not than the second", "3 4 2", false},
		{"falling by a hair", "2 3+ 3", false},
		{"rising by a hair", "2 3- 3 3+", true},
		{"falling in the denominator", "1/3 1/2 1", true},
		{"rising in the denominator", "1 1/2 1/3", false},
		{"not as texts", "9 10 100", true},
	}
	for _, c := range cases {
		if got := impl.IsAscending(ratsOf(numbersOf(t, c.l))); got != c.want {
			t.Errorf("%s: IsAscending of %s is %v", c.name, c.l, got)
		}
	}
}

func isRising(choices []int) bool {
	for i, choice := range choices {
		if choice == 0 || i > 0 && choices[i-1] >= choice {
			return false
		}
	}
	return true
}

func TestIsAscendingOnAllShortLists(t *testing.T) {
	found := map[bool]int{}
	forAllRatLists(5, func(l []impl.Rat, choices []int) {
		want := isRising(choices)
		if got := impl.IsAscending(l); got != want {
			t.Fatalf("IsAscending(%v) is %v", l, got)
		}
		found[want]++
	})
	if found[true] != 16 {
		t.Errorf("%d lists are ascending", found[true])
	}
}

func TestIsAscendingOfLongFractions(t *testing.T) {
	near := ratsOf(nearNumbers())
	if !impl.IsAscending(near) {
		t.Errorf("IsAscending of %s is false", textOfRats(near))
	}
	for i, r := range near {
		for k, s := range near {
			if got := impl.IsAscending([]impl.Rat{r, s}); got != (i < k) {
				t.Errorf("IsAscending of %s and %s is %v", impl.FormatRat(r), impl.FormatRat(s), got)
			}
		}
		if impl.IsAscending(slices.Insert(slices.Clone(near), i, r)) {
			t.Errorf("IsAscending is true with %s twice", impl.FormatRat(r))
		}
	}
}

func TestIsAscendingRefusesWhatIsNoFraction(t *testing.T) {
	l := ratsOf(numbersOf(t, "-2 0 1/2 3 7"))
	for _, bad := range badRats() {
		for k := range 6 {
			if impl.IsAscending(slices.Insert(slices.Clone(l), k, bad)) {
				t.Errorf("IsAscending is true with %v at %d", bad, k)
			}
		}
		if impl.IsAscending([]impl.Rat{bad}) || impl.IsAscending([]impl.Rat{bad, bad}) {
			t.Errorf("IsAscending of %v alone is true", bad)
		}
	}
}

func TestEventIndex(t *testing.T) {
	const events = "-3 0 1/2 3 7 10"
	cases := []struct {
		name, l, x string
		want       int
	}{
		{"the first element", events, "-3", 0},
		{"0", events, "0", 1},
		{"a fraction", events, "1/2", 2},
		{"an element in the middle", events, "3", 3},
		{"the last but one", events, "7", 4},
		{"the last element", events, "10", 5},
		{"between two elements", events, "5", -1},
		{"between the first two", events, "-1/2", -1},
		{"between the last two", events, "8", -1},
		{"before the first element", events, "-4", -1},
		{"behind the last element", events, "11", -1},
		{"just before the first element", events, "-3-", -1},
		{"just behind the first element", events, "-3+", -1},
		{"just before an element", events, "3-", -1},
		{"just behind an element", events, "3+", -1},
		{"just behind the last element", events, "10+", -1},
		{"the opposite of an element", events, "-7", -1},
		{"the inverse of an element", events, "2", -1},
		{"the same numerator", events, "1/3", -1},
		{"the same denominator", events, "3/2", -1},
		{"no element", "", "0", -1},
		{"the only element", "4/5", "4/5", 0},
		{"not the only element", "4/5", "5/4", -1},
		{"a descending list", "10 7 3 0", "3", 2},
		{"the last of a descending list", "10 7 3 0", "0", 3},
		{"a list in no order", "7 -3 10 1/2 0 3", "1/2", 3},
		{"the first of a list in no order", "7 -3 10 1/2 0 3", "7", 0},
		{"the last of a list in no order", "7 -3 10 1/2 0 3", "3", 5},
		{"not in a list in no order", "7 -3 10 1/2 0 3", "1", -1},
	}
	for _, c := range cases {
		if got := impl.EventIndex(ratsOf(numbersOf(t, c.l)), ratOf(numbersOf(t, c.x)[0])); got != c.want {
			t.Errorf("%s: EventIndex of %s in %s is %d, want %d", c.name, c.x, c.l, got, c.want)
		}
	}
}

func TestEventIndexFindsEveryElement(t *testing.T) {
	random := rand.New(rand.NewSource(141))
	for _, numbers := range [][]*big.Rat{nearNumbers(), different(bigRatsOf(edgeRats()))} {
		for range 3 {
			l := ratsOf(numbers)
			for k, x := range l {
				without := slices.Delete(slices.Clone(l), k, k+1)
				if got := impl.EventIndex(l, clonedRat(x)); got != k || impl.EventIndex(without, x) != -1 {
					t.Fatalf("EventIndex of %s is %d, want %d, or it is found where it is not", impl.FormatRat(x), got, k)
				}
			}
			random.Shuffle(len(numbers), func(i, k int) { numbers[i], numbers[k] = numbers[k], numbers[i] })
		}
	}
}

// Even what is no valid fraction is found in a list that has it as an element.
func TestEventIndexOnAllShortLists(t *testing.T) {
	forAllRatLists(4, func(l []impl.Rat, choices []int) {
		for choice, x := range shortNumbers() {
			if got, want := impl.EventIndex(l, x), slices.Index(choices, choice); got != want {
				t.Fatalf("EventIndex(%v, %v) = %d, want %d", l, x, got, want)
			}
		}
	})
}

// What is no valid fraction is not taken for an element that is one.
func TestEventIndexOfWhatIsNoFraction(t *testing.T) {
	lists := [][]impl.Rat{nil, ratsOf(numbersOf(t, "0")), ratsOf(numbersOf(t, "-3 0 1/2 3 7 10")), edgeRats()}
	for i, bad := range badRats() {
		for _, l := range lists {
			if got := impl.EventIndex(l, bad); got != -1 {
				t.Errorf("EventIndex of %v in %s is %d", bad, textOfRats(l), got)
			}
			for _, k := range []int{0, len(l) / 2, len(l)} {
				with, x := slices.Insert(slices.Clone(l), k, bad), impl.RatOf(1000+i, 7)
				if got := impl.EventIndex(append(with, x), x); got != len(with) || impl.EventIndex(with, x) != -1 {
					t.Errorf("EventIndex finds %s at %d in a list with %v", impl.FormatRat(x), got, bad)
				}
			}
		}
	}
}

func TestSlabOf(t *testing.T) {
	const events = "-3 0 1/2 3 7 10"
	cases := []struct {
		name, l string
		want    map[string]int
	}{
		{"at elements", events, map[string]int{"-3": -1, "0": -1, "1/2": -1, "3": -1, "7": -1, "10": -1}},
		{"between elements", events, map[string]int{"-1": 0, "1/3": 1, "1": 2, "5": 3, "17/2": 4}},
		{"just behind elements", events, map[string]int{"-3+": 0, "0+": 1, "3+": 3, "7+": 4}},
		{"just before elements", events, map[string]int{"0-": 0, "3-": 2, "7-": 3, "10-": 4}},
		{"outside of all", events, map[string]int{"-3-": -1, "10+": -1, "-4": -1, "11": -1, "-1000000000000": -1, "1000000000000": -1}},
		{"no element", "", map[string]int{"0": -1, "-1": -1, "1/2": -1}},
		{"one element", "5", map[string]int{"4": -1, "5": -1, "6": -1, "5-": -1, "5+": -1}},
		{"two elements", "5 6", map[string]int{"4": -1, "5": -1, "5+": 0, "11/2": 0, "6-": 0, "6": -1, "6+": -1}},
		{"two elements a hair apart", "5 5+", map[string]int{"5": -1, "5+": -1, "5-": -1, "6": -1}},
		{"descending", "10 7 3", map[string]int{"8": -1, "5": -1, "10": -1, "2": -1, "11": -1}},
		{"the first two exchanged", "3 0 7 10", map[string]int{"1": -1, "5": -1, "8": -1, "2": -1}},
		{"the last two exchanged", "0 3 10 7", map[string]int{"1": -1, "5": -1, "8": -1}},
		{"the first two equal", "0 0 3 7", map[string]int{"0": -1, "1": -1, "5": -1}},
		{"two in the middle equal", "0 3 3 7", map[string]int{"1": -1, "3": -1, "5": -1}},
		{"the last two equal", "0 3 7 7", map[string]int{"1": -1, "5": -1, "7": -1}},
		{"two equal ones only", "4 4", map[string]int{"3": -1, "4": -1, "5": -1}},
	}
	for _, c := range cases {
		for x, want := range c.want {
			if got := impl.SlabOf(ratsOf(numbersOf(t, c.l)), ratOf(numbersOf(t, x)[0])); got != want {
				t.Errorf("%s: SlabOf %s in %s is %d, want %d", c.name, x, c.l, got, want)
			}
		}
	}
}

func TestSlabOfOnAllShortLists(t *testing.T) {
	numbers := []impl.Rat{impl.RatFromInt(-2), impl.RatOf(-3, 2), impl.RatFromInt(-1), impl.RatFromInt(0), impl.RatOf(1, 4), impl.RatOf(1, 3), impl.RatOf(2, 5), impl.RatOf(1, 2), impl.RatFromInt(1)}
	found := map[int]int{}
	forAllRatLists(4, func(l []impl.Rat, choices []int) {
		for place, x := range append(numbers, impl.Rat{}) {
			// The numbers are at 1, between 1 and 2, at 2, and so on, as the short ones are counted.
			want, doubled := -1, place+1
			for i := range len(choices) - 1 {
				if isRising(choices) && doubled <= len(numbers) && 2*choices[i] < doubled && doubled < 2*choices[i+1] {
					want = i
				}
			}
			if got := impl.SlabOf(l, x); got != want {
				t.Fatalf("SlabOf(%v, %v) = %d, want %d", l, x, got, want)
			}
			found[want]++
		}
	})
	if found[0] == 0 || found[1] == 0 || found[2] == 0 {
		t.Errorf("the slabs are too much alike: %v", found)
	}
}

func TestSlabOfLongFractions(t *testing.T) {
	near := nearNumbers()
	var even []*big.Rat
	for i := 0; i < len(near); i += 2 {
		even = append(even, near[i])
	}
	for i, q := range near {
		want := -1
		if i%2 == 1 && i < len(near)-1 {
			want = i / 2
		}
		if got := impl.SlabOf(ratsOf(even), ratOf(q)); got != want {
			t.Errorf("SlabOf %v is %d, want %d", q, got, want)
		}
	}
}

func TestSlabOfRefusesWhatIsNoFraction(t *testing.T) {
	l := ratsOf(numbersOf(t, "-3 0 1/2 3 7 10"))
	for _, bad := range badRats() {
		for _, list := range [][]impl.Rat{nil, l[:1], l[:2], l, {bad}, {bad, bad}, {l[0], bad, l[5]}} {
			if got := impl.SlabOf(list, bad); got != -1 {
				t.Errorf("SlabOf %v in %v is %d", bad, list, got)
			}
		}
		for k := range 7 {
			with := slices.Insert(slices.Clone(l), k, bad)
			for _, x := range ratsOf(numbersOf(t, "-1 1/3 1 5 8 0")) {
				if got := impl.SlabOf(with, x); got != -1 {
					t.Errorf("SlabOf %s is %d with %v at %d", impl.FormatRat(x), got, bad, k)
				}
			}
		}
	}
}

// wantedEvents looks for the numbers with the heights of edges, and keeps them in order one by one.
func wantedEvents(b impl.Box, areas [][]impl.Vec) []*big.Rat {
	low, high := exactInt(b.Low.X), exactInt(b.High.X)
	if low.Cmp(high) >= 0 || slices.ContainsFunc(areas, func(area []impl.Vec) bool { return !wantedPolygon(area) }) {
		return nil
	}
	var numbers []*big.Rat
	for _, corner := range slices.Concat(areas...) {
		numbers = append(numbers, exactInt(corner.X))
	}
	edges := wantedEdges(areas)
	for i, e := range edges {
		numbers = append(numbers, wantedLevel(e, b.Low.Y), wantedLevel(e, b.High.Y))
		for _, f := range edges[i+1:] {
			numbers = append(numbers, wantedCrossing(e, f))
		}
	}
	numbers = slices.DeleteFunc(numbers, func(q *big.Rat) bool { return q == nil || q.Cmp(low) <= 0 || q.Cmp(high) >= 0 })
	return different(append(numbers, low, high))
}

// spanningHeights are the heights at x of the floor, the ceiling and all edges that reach from lo to hi.
func spanningHeights(b impl.Box, edges []impl.Edge, lo, hi, x *big.Rat) []*big.Rat {
	l := []*big.Rat{exactInt(b.Low.Y), exactInt(b.High.Y)}
	for _, e := range edges {
		if exactInt(e.A.X).Cmp(lo) <= 0 && hi.Cmp(exactInt(e.B.X)) <= 0 {
			l = append(l, wantedHeight(e, x))
		}
	}
	return l
}

// checkSlab expects that no corner lies between lo and hi, and that no two of all heights change their order there.
func checkSlab(t *testing.T, b impl.Box, areas [][]impl.Vec, lo, hi *big.Rat) {
	t.Helper()
	for _, corner := range slices.Concat(areas...) {
		if x := exactInt(corner.X); lo.Cmp(x) < 0 && x.Cmp(hi) < 0 {
			t.Fatalf("an edge of %v begins or ends at %v, between the events %v and %v", areas, x, lo, hi)
		}
	}
	edges := wantedEdges(areas)
	first, last := spanningHeights(b, edges, lo, hi, lo), spanningHeights(b, edges, lo, hi, hi)
	for i := range first {
		for k := range i {
			if first[i].Cmp(first[k])*last[i].Cmp(last[k]) < 0 {
				t.Fatalf("edges of %v cross each other or the rectangle %v between the events %v and %v", areas, b, lo, hi)
			}
		}
	}
}

// kindOfEvent tells what happens at x: edges begin or end, or else they cross each other or the rectangle.
func kindOfEvent(b impl.Box, areas [][]impl.Vec, x *big.Rat) string {
	if slices.ContainsFunc(slices.Concat(areas...), func(corner impl.Vec) bool { return exactInt(corner.X).Cmp(x) == 0 }) {
		return "a corner"
	}
	kind, edges := "nothing", wantedEdges(areas)
	for i, e := range edges {
		if exactInt(e.A.X).Cmp(x) > 0 || exactInt(e.B.X).Cmp(x) < 0 {
			continue
		}
		height := wantedHeight(e, x)
		if e.A.Y != e.B.Y && (height.Cmp(exactInt(b.Low.Y)) == 0 || height.Cmp(exactInt(b.High.Y)) == 0) {
			kind = "a level"
		}
		for _, f := range edges[:i] {
			if !isParallel(e, f) && exactInt(f.A.X).Cmp(x) <= 0 && exactInt(f.B.X).Cmp(x) >= 0 && height.Cmp(wantedHeight(f, x)) == 0 {
				return "a crossing"
			}
		}
	}
	return kind
}

// P6: events are ascending, begin and end with the rectangle, something happens at all others, and nothing in between.
// The kinds of the inner events are counted.
func checkEvents(t *testing.T, b impl.Box, areas [][]impl.Vec, found map[string]int) {
	t.Helper()
	got := impl.EventsOf(b, areas)
	if want := ratsOf(wantedEvents(b, areas)); !sameRats(got, want) {
		t.Fatalf("EventsOf(%v, %v) is %s, want %s", b, areas, textOfRats(got), textOfRats(want))
	}
	events := bigRatsOf(got)
	last := len(events) - 1
	if !impl.IsAscending(got) || events[0].Cmp(exactInt(b.Low.X)) != 0 || events[last].Cmp(exactInt(b.High.X)) != 0 {
		t.Fatalf("EventsOf(%v, %v) is not ascending, or not from side to side: %s", b, areas, textOfRats(got))
	}
	for i, x := range events[1:] {
		checkSlab(t, b, areas, events[i], x)
	}
	for _, x := range events[1:last] {
		kind := kindOfEvent(b, areas, x)
		if kind == "nothing" {
			t.Fatalf("EventsOf(%v, %v) has the event %v, at which nothing happens", b, areas, x)
		}
		found[kind]++
	}
}

type eventCase struct {
	name, want string
	box        impl.Box
	areas      [][]impl.Vec
}

func (c eventCase) check(t *testing.T) {
	t.Helper()
	if got, want := impl.EventsOf(c.box, c.areas), ratsOf(numbersOf(t, c.want)); !sameRats(got, want) {
		t.Errorf("%s: EventsOf(%v, %v) is %s, want %s", c.name, c.box, c.areas, textOfRats(got), c.want)
		return
	}
	checkEvents(t, c.box, c.areas, map[string]int{})
}

func areasOf(l ...[]impl.Vec) [][]impl.Vec { return l }

func TestEventsOfCorners(t *testing.T) {
	box, thin := boxOf(0, 0, 10, 8), boxOf(3, 0, 4, 8)
	square, triangle := rectangle(2, 3, 5, 6), vecs(2, 3, 7, 3, 4, 6)
	cases := []eventCase{
		{"no area", "0 10", box, nil},
		{"no area in an empty list", "0 10", box, [][]impl.Vec{}},
		{"no area to the left of the Y axis", "-7 -2", boxOf(-7, 0, -2, 8), nil},
		{"no area, one unit wide", "3 4", thin, nil},
		{"one unit wide, in an area", "3 4", thin, areasOf(rectangle(0, 2, 9, 5))},
		{"one unit wide, with corners at both sides", "3 4", thin, areasOf(rectangle(3, 2, 4, 5))},
		{"a square", "0 2 5 10", box, areasOf(square)},
		{"a square that begins with a vertical edge", "0 2 5 10", box, areasOf(startedAt(square, 1))},
		{"a triangle", "0 2 4 7 10", box, areasOf(triangle)},
		{"one vertical edge", "0 3 6 10", box, areasOf(vecs(3, 2, 6, 4, 3, 7))},
		{"one horizontal edge", "0 2 3 6 10", box, areasOf(vecs(2, 2, 6, 2, 3, 7))},
		{"corners at both sides", "0 10", box, areasOf(rectangle(0, 2, 10, 5))},
		{"corners just inside of both sides", "0 1 9 10", box, areasOf(rectangle(1, 2, 9, 5))},
		{"corners just outside of both sides", "0 10", box, areasOf(rectangle(-1, 2, 11, 5))},
		{"an area of the size of the rectangle", "0 10", box, areasOf(rectangle(0, 0, 10, 8))},
		{"an area around the rectangle", "0 10", box, areasOf(rectangle(-5, -5, 20, 20))},
		{"areas to the left and to the right", "0 10", box, areasOf(rectangle(-5, 1, -2, 3), rectangle(12, 1, 15, 3))},
		{"areas at the sides, outside", "0 10", box, areasOf(rectangle(-5, 1, 0, 3), rectangle(10, 1, 15, 3))},
		{"areas above and below", "0 2 3 5 6 10", box, areasOf(rectangle(2, 20, 3, 25), rectangle(5, -9, 6, -4))},
		{"areas apart", "0 1 2 4 5 7 8 10", box, areasOf(rectangle(7, 1, 8, 2), rectangle(1, 1, 2, 2), rectangle(4, 1, 5, 2))},
		{"areas below each other", "0 2 3 7 10", box, areasOf(rectangle(2, 1, 7, 2), rectangle(3, 4, 7, 5), rectangle(2, 6, 3, 7))},
		{"the same area twice", "0 2 5 10", box, areasOf(square, square)},
		{"the same area twice, with another first corner", "0 2 4 7 10", box, areasOf(triangle, startedAt(triangle, 2))},
		{"the same area five times", "0 2 4 7 10", box, areasOf(triangle, triangle, startedAt(triangle, 1), triangle, triangle)},
		{"the areas of a hall", "1 7 13 19", boxOf(1, 1, 19, 9), areasOf(rectangle(7, 2, 13, 8))},
	}
	for _, c := range cases {
		c.check(t)
	}
}

// The lower edges of the four areas cross in one point, and two pairs of the upper ones do above it.
func crossingsInOnePoint() [][]impl.Vec {
	return areasOf(vecs(3, 2, 6, 5, 3, 100), vecs(3, 5, 6, 2, 6, 100), vecs(3, -1, 6, 8, 3, 100), vecs(3, 8, 6, -1, 6, 100))
}

func TestEventsOfCrossings(t *testing.T) {
	box, high := boxOf(0, 0, 10, 8), boxOf(0, -50, 10, 1500)
	rising, falling := vecs(-2, 1, 2, 5, -2, 5), vecs(-2, 5, 2, 1, 2, 5)
	steep, mirrored, bar := vecs(0, 0, 1, 1000, 0, 1000), vecs(-1, 0, 0, 0, -1, 1000), rectangle(-5, 1, 5, 2)
	wedge := vecs(1, 1, 7, 1, 7, 7)
	cases := []eventCase{
		{"inside, one unit wide", "0 1/2 1", boxOf(0, 0, 1, 8), areasOf(vecs(0, 1, 1, 2, 0, 2), vecs(0, 0, 1, 1, 0, 2))},
		{"inside", "-9 -2 0 2 9", boxOf(-9, 0, 9, 8), areasOf(rising, falling)},
		{"at Low.X", "0 2 10", box, areasOf(rising, falling)},
		{"at High.X", "-10 -2 0", boxOf(-10, 0, 0, 8), areasOf(rising, falling)},
		{"outside to the left", "1 2 10", boxOf(1, 0, 10, 8), areasOf(rising, falling)},
		{"outside to the right", "-10 -2 -1", boxOf(-10, 0, -1, 8), areasOf(rising, falling)},
		{"just inside of Low.X", "0 1/1000 1/500 1 5 10", high, areasOf(steep, bar)},
		{"just outside of High.X", "-10 -5 0", boxOf(-10, -50, 0, 1500), areasOf(steep, bar)},
		{"just inside of High.X", "-10 -5 -1 -1/500 -1/1000 0", boxOf(-10, -50, 0, 1500), areasOf(mirrored, bar)},
		{"just outside of Low.X", "0 5 10", high, areasOf(mirrored, bar)},
		{"above the rectangle", "0 2 4 6 10", box, areasOf(vecs(2, 20, 6, 24, 2, 24), vecs(2, 24, 6, 20, 6, 24))},
		{"below the rectangle", "0 2 4 6 10", box, areasOf(vecs(2, -24, 6, -20, 2, -20), vecs(2, -20, 6, -24, 6, -20))},
		{"squares that overlap", "0 2 3 5 6 10", box, areasOf(rectangle(2, 2, 5, 5), rectangle(3, 3, 6, 6))},
		{"touching at a vertical edge", "0 2 4 7 10", box, areasOf(rectangle(2, 2, 4, 5), rectangle(4, 3, 7, 6))},
		{"touching at a horizontal edge", "0 2 3 6 8 10", box, areasOf(rectangle(2, 2, 6, 4), rectangle(3, 4, 8, 6))},
		{"touching with a corner at a corner", "0 2 4 7 10", box, areasOf(rectangle(2, 2, 4, 4), rectangle(4, 4, 7, 6))},
		{"touching with a corner at a horizontal edge", "0 2 3 4 5 6 10", box, areasOf(rectangle(2, 2, 6, 4), vecs(4, 4, 5, 6, 3, 6))},
		{"touching with a corner at a slanted edge", "0 1 2 3 4 7 10", box, areasOf(wedge, vecs(3, 3, 4, 5, 2, 6))},
		{"in a corner, and beside it", "0 1 3 5 26/5 6 7 10", box, areasOf(wedge, vecs(3, 3, 6, 2, 5, 6))},
		{"on one line", "0 1 3 7 8 9 10", box, areasOf(wedge, vecs(3, 3, 9, 9, 3, 9))},
		{"on one line, apart", "0 1 2 3 5 8 10", box, areasOf(vecs(1, 1, 2, 1, 2, 2), vecs(3, 3, 5, 3, 5, 5), vecs(5, 5, 8, 5, 8, 8))},
		{"parallel", "0 1 6 10", box, areasOf(vecs(1, 1, 6, 1, 6, 6), vecs(1, 2, 6, 7, 1, 7))},
		{"parallel and horizontal", "0 1 2 8 9 10", box, areasOf(rectangle(1, 1, 8, 7), rectangle(2, 3, 9, 5))},
		{"several in one point", "0 3 321/104 837/187 9/2 846/187 615/104 6 10", high, crossingsInOnePoint()},
		{"across the range", "-1000 -1000/7996001 999 3997999000/3998001 3999999000/4000001 1000", boxOf(-1000, -1000, 1000, 1000), areasOf(longTriangle(), vecs(-1000, 1000, 999, -1000, 1000, 1000))},
		{"of areas that are outside with all their corners", "0 1/2 385/59 10", boxOf(0, -50, 10, 50), areasOf(vecs(-5, -5, 15, 15, -5, 40), vecs(-5, 6, 15, -14, 15, 40))},
	}
	for _, c := range cases {
		c.check(t)
	}
}

func TestEventsOfLevels(t *testing.T) {
	box, tip := boxOf(0, 0, 10, 8), vecs(2, 0, 8, 0, 5, 6)
	steep, mirrored, tall := vecs(0, -1, 1, 999, 0, 999), vecs(-1, -1, 0, -1, -1, 999), vecs(2, -1000, 8, -1000, 5, 1000)
	cases := []eventCase{
		{"through the floor", "0 1 5/3 3 13/3 5 10", box, areasOf(vecs(1, -2, 5, -2, 3, 4))},
		{"through the ceiling", "0 1 5/3 3 13/3 5 10", box, areasOf(vecs(1, 10, 3, 4, 5, 10))},
		{"through both", "0 2 11/4 19/4 5 10", box, areasOf(vecs(2, -1, 5, -1, 2, 11))},
		{"one unit wide", "0 1/4 3/4 1", boxOf(0, 1, 1, 3), areasOf(vecs(0, 0, 1, 4, 0, 4))},
		{"beginning at the floor and ending at the ceiling", "0 2 3 5 10", box, areasOf(vecs(2, 0, 5, 0, 3, 8))},
		{"beginning at the ceiling and ending at the floor", "0 2 4 6 10", box, areasOf(vecs(4, 0, 6, 8, 2, 8))},
		{"lying at the floor and at the ceiling", "0 2 5 10", box, areasOf(rectangle(2, 0, 5, 8))},
		{"touching the floor from below and the ceiling from above", "0 2 4 6 10", box, areasOf(vecs(2, -5, 6, -5, 4, 0), vecs(4, 8, 6, 12, 2, 12))},
		{"lying at the floor from below", "0 2 5 10", box, areasOf(rectangle(2, -3, 5, 0))},
		{"lying at the floor, to the left of it", "0 10", box, areasOf(rectangle(-4, 0, -2, 3))},
		{"vertical edges through the floor and the ceiling", "0 2 5 10", box, areasOf(rectangle(2, -3, 5, 11))},
		{"at Low.X and High.X", "0 5 10", box, areasOf(vecs(-2, -2, 12, -2, 5, 5))},
		{"at Low.X and High.X, at the ceiling", "0 5 10", box, areasOf(vecs(-2, 10, 5, 3, 12, 10))},
		{"just inside of Low.X", "0 1/1000 9/1000 1 10", box, areasOf(steep)},
		{"just outside of High.X", "-10 0", boxOf(-10, 0, 0, 8), areasOf(steep)},
		{"just inside of High.X", "-10 -1 -9/1000 -1/1000 0", boxOf(-10, 0, 0, 8), areasOf(mirrored)},
		{"just outside of Low.X", "0 10", box, areasOf(mirrored)},
		{"of an area with all corners above and below", "0 2 18/7 26/7 4 10", box, areasOf(vecs(2, -4, 4, 10, 2, 10))},
		{"of an area with all corners to the left and to the right", "0 5/2 10", box, areasOf(vecs(-5, -6, 15, 10, -5, 11))},
		{"a rectangle without height", "0 2 4 5 6 8 10", boxOf(0, 4, 10, 4), areasOf(tip)},
		{"the floor above the ceiling", "0 2 3 9/2 5 11/2 7 8 10", boxOf(0, 5, 10, 2), areasOf(tip)},
		{"the floor below all, the ceiling above all", "0 2 5 8 10", boxOf(0, -1, 10, 7), areasOf(tip)},
		{"at the ends of the range", "0 2 5 8 10", boxOf(0, -1000, 10, 1000), areasOf(tall)},
		{"just inside of the range", "0 2 4003/2000 9997/2000 5 10003/2000 15997/2000 8 10", boxOf(0, -999, 10, 999), areasOf(tall)},
		{"just outside of the range", "0 2 5 8 10", boxOf(0, -1001, 10, 1001), areasOf(tall)},
		{"the floor in the range only", "0 2 7/2 5 13/2 8 10", boxOf(0, 0, 10, 1001), areasOf(tall)},
		{"the ceiling in the range only", "0 2 7/2 5 13/2 8 10", boxOf(0, math.MinInt, 10, 0), areasOf(tall)},
		{"several areas at one level", "0 1 2 3 7/2 4 5 6 10", box, areasOf(vecs(1, -2, 5, -2, 3, 2), vecs(2, -2, 6, -2, 4, 2))},
	}
	for _, c := range cases {
		c.check(t)
	}
}

func TestEventsOfTheGreatestRectangles(t *testing.T) {
	const least, greatest = "-9223372036854775808", "9223372036854775807"
	tip := vecs(2, 0, 8, 0, 5, 6)
	cases := []eventCase{
		{"no area", least + " " + greatest, boxOf(math.MinInt, math.MinInt, math.MaxInt, math.MaxInt), nil},
		{"an area", least + " 2 5 8 " + greatest, boxOf(math.MinInt, math.MinInt, math.MaxInt, math.MaxInt), areasOf(tip)},
		{"an area, the floor above the ceiling", least + " 2 5 8 " + greatest, boxOf(math.MinInt, math.MaxInt, math.MaxInt, math.MinInt), areasOf(tip)},
		{"an area, levels", least + " 2 3 4 5 6 7 8 " + greatest, boxOf(math.MinInt, 2, math.MaxInt, 4), areasOf(tip)},
		{"to the left", least + " 2 5", boxOf(math.MinInt, math.MinInt, 5, math.MaxInt), areasOf(tip)},
		{"to the right", "5 8 " + greatest, boxOf(5, math.MinInt, math.MaxInt, math.MaxInt), areasOf(tip)},
		{"the least one unit wide", least + " -9223372036854775807", boxOf(math.MinInt, 0, math.MinInt+1, 8), areasOf(tip)},
		{"the greatest one unit wide", "9223372036854775806 " + greatest, boxOf(math.MaxInt-1, 0, math.MaxInt, 8), areasOf(tip)},
		{"the largest square", least + " -1000 1000 " + greatest, boxOf(math.MinInt, 0, math.MaxInt, 8), areasOf(largestSquare())},
		{"just larger than the range", "-1001 -1000 1000 1001", boxOf(-1001, -1001, 1001, 1001), areasOf(largestSquare())},
	}
	for _, c := range cases {
		c.check(t)
	}
	areas := crossingsInOnePoint()
	ends, heights := []int{math.MinInt, math.MinInt + 1, -1001, -3, 4, 1001, math.MaxInt - 1, math.MaxInt}, []int{math.MinInt, -1001, 3, math.MaxInt}
	for i, low := range ends {
		for _, high := range ends[i+1:] {
			for _, floor := range heights {
				for _, ceiling := range heights {
					checkEvents(t, boxOf(low, floor, high, ceiling), areas, map[string]int{})
				}
			}
		}
	}
}

// sweepSample is a rectangle with areas in and around it.
type sweepSample struct {
	box   impl.Box
	areas [][]impl.Vec
}

func randomBox(random *rand.Rand, most int) impl.Box {
	for {
		if v := randomVecs(random, 2, most); v[0].X < v[1].X {
			return impl.Box{Low: v[0], High: v[1]}
		}
	}
}

// gridSweeps have small areas on a small grid, so that many edges touch, lie on one line or cross in corners.
func gridSweeps(random *rand.Rand, n int) []sweepSample {
	polygons := gridPolygons()
	var l []sweepSample
	for range n {
		var areas [][]impl.Vec
		for range 1 + random.Intn(5) {
			area := stretched(polygons[random.Intn(len(polygons))], 1+random.Intn(4))
			areas = append(areas, movedBy(area, randomVecs(random, 1, 3)[0]))
		}
		box := boxOf(random.Intn(6)-3, random.Intn(9)-4, 3+random.Intn(6), random.Intn(9)-1)
		l = append(l, sweepSample{box, areas})
	}
	return l
}

// sampleSweeps have small areas, areas of all sizes, and those of scenes.
func sampleSweeps() []sweepSample {
	random := rand.New(rand.NewSource(142))
	polygons, l := samplePolygons(), gridSweeps(random, 500)
	for range 150 {
		var areas [][]impl.Vec
		for range random.Intn(4) {
			areas = append(areas, polygons[random.Intn(len(polygons))])
		}
		l = append(l, sweepSample{randomBox(random, []int{3, 20, 999, 3000}[random.Intn(4)]), areas})
	}
	for i, s := range crowdedScenes(143, 150) {
		if low, high := wantedLimits(s, i%4); low.X < high.X {
			l = append(l, sweepSample{impl.Box{Low: low, High: high}, wantedAreas(s, i%4)})
		}
	}
	return l
}

func TestNothingHappensBetweenEvents(t *testing.T) {
	found := map[string]int{}
	for _, s := range sampleSweeps() {
		checkEvents(t, s.box, s.areas, found)
	}
	if found["a corner"] < 1000 || found["a crossing"] < 300 || found["a level"] < 300 {
		t.Errorf("the events are too much alike: %v", found)
	}
}

// P6: between two events a vertical line meets the same areas in the same order, wherever it is.
func TestSectionsKeepTheirOrderBetweenEvents(t *testing.T) {
	random, slabs := rand.New(rand.NewSource(144)), 0
	for _, s := range gridSweeps(random, 150) {
		events := bigRatsOf(impl.EventsOf(s.box, s.areas))
		for i, hi := range events[1:] {
			width := new(big.Rat).Sub(hi, events[i])
			var last []int
			for _, part := range []*big.Rat{big.NewRat(1, 1000000), big.NewRat(1+random.Int63n(999), 1000), big.NewRat(999999, 1000000)} {
				x := new(big.Rat).Mul(width, part)
				order := sectionOrder(s, x.Add(x, events[i]))
				if last != nil && !slices.Equal(order, last) {
					t.Fatalf("the sections of %v in %v change their order between %v and %v", s.areas, s.box, events[i], hi)
				}
				last = order
			}
			slabs++
		}
	}
	if slabs < 500 {
		t.Errorf("there are only %d slabs", slabs)
	}
}

// sectionOrder compares the floor, the ceiling and all ends of sections at x, cut out of a long vertical segment. What
// is not met has no place in the order.
func sectionOrder(s sweepSample, x *big.Rat) []int {
	bottom, top := exactInt(-2000), exactInt(2000)
	heights := []*big.Rat{exactInt(s.box.Low.Y), exactInt(s.box.High.Y)}
	for _, area := range s.areas {
		first, last := partInside(area, bigPoint{x, bottom}, bigPoint{x, top})
		if first.Cmp(last) > 0 {
			heights = append(heights, nil, nil)
			continue
		}
		heights = append(heights, along(first, 4000, -2000), along(last, 4000, -2000))
	}
	order := []int{}
	for i, height := range heights {
		for _, other := range heights[:i] {
			if height == nil || other == nil {
				order = append(order, 2)
			} else {
				order = append(order, height.Cmp(other))
			}
		}
	}
	return order
}

func TestEventsOfAreasInAnyOrder(t *testing.T) {
	random := rand.New(rand.NewSource(145))
	for _, s := range append(gridSweeps(random, 200), sweepSample{boxOf(0, -50, 10, 1500), crossingsInOnePoint()}) {
		want := impl.EventsOf(s.box, s.areas)
		areas := slices.Concat(s.areas, s.areas[:random.Intn(len(s.areas)+1)])
		random.Shuffle(len(areas), func(i, k int) { areas[i], areas[k] = areas[k], areas[i] })
		for i, area := range areas {
			areas[i] = startedAt(area, random.Intn(len(area)))
		}
		if got := impl.EventsOf(s.box, areas); !sameRats(got, want) {
			t.Fatalf("EventsOf(%v, %v) is %s, but for %v it is %s", s.box, areas, textOfRats(got), s.areas, textOfRats(want))
		}
	}
}

func TestEventsOfRefusesWhatIsNoPolygon(t *testing.T) {
	random := rand.New(rand.NewSource(146))
	good := areasOf(smallSquare(), pentagon(), vecs(2, 3, 7, 3, 4, 6), heptagon())
	for name, lists := range badPolygons() {
		for _, bad := range lists {
			for _, areas := range [][][]impl.Vec{nil, good[:1], good} {
				for k := range len(areas) + 1 {
					with := slices.Insert(slices.Clone(areas), k, bad)
					if got := impl.EventsOf(randomBox(random, 20), with); len(got) != 0 {
						t.Fatalf("%s: EventsOf with %v at %d is %s", name, bad, k, textOfRats(got))
					}
				}
			}
		}
	}
}

func TestEventsOfRefusesRectanglesWithoutWidth(t *testing.T) {
	ends := []int{math.MinInt, math.MinInt + 1, -1001, -1000, -1, 0, 1, 1000, 1001, math.MaxInt - 1, math.MaxInt}
	lists := [][][]impl.Vec{nil, areasOf(smallSquare()), areasOf(largestSquare(), pentagon()), areasOf(nil), areasOf(reversed(smallSquare()))}
	for i, high := range ends {
		for _, low := range ends[i:] {
			for _, y := range [][2]int{{0, 8}, {8, 0}, {3, 3}, {math.MinInt, math.MaxInt}, {math.MaxInt, math.MinInt}} {
				for _, areas := range lists {
					if got := impl.EventsOf(boxOf(low, y[0], high, y[1]), areas); len(got) != 0 {
						t.Errorf("EventsOf with Low.X %d and High.X %d is %s", low, high, textOfRats(got))
					}
				}
			}
		}
	}
}

// framedRats lays the numbers, and each of their parts, between others.
func framedRats(l []impl.Rat) (inside []impl.Rat, isUnchanged func() bool) {
	spare := slices.Repeat([]impl.Rat{impl.RatFromInt(-7), impl.RatOf(7, 2)}, 20)
	var rows [][]int
	outer := slices.Clone(spare[:2])
	for _, r := range l {
		parts, x := framedRat(r)
		rows, outer = append(rows, parts[:]...), append(outer, x)
	}
	outer = append(outer, clonedRats(spare)...)
	wasOuter, wasRows := clonedRats(outer), clonedLists(rows)
	return outer[2 : 2+len(l)], func() bool { return sameRats(outer, wasOuter) && slices.EqualFunc(rows, wasRows, slices.Equal) }
}

// overwriteRats fills the parts of all numbers, also of those that lie in the spare capacity, and then the list.
func overwriteRats(l []impl.Rat) {
	l = l[:cap(l)]
	for i, r := range l {
		overwriteRat(r)
		l[i] = fraction(true, []int{99}, []int{98})
	}
}

func partsOfRats(l []impl.Rat) [][]int {
	var parts [][]int
	for _, r := range l {
		parts = append(parts, r.Num.Mag, r.Den)
	}
	return parts
}

// sampleRatLists are lists in all orders, and lists with one element that is no valid fraction.
func sampleRatLists(t *testing.T) [][]impl.Rat {
	l := [][]impl.Rat{nil, ratsOf(nearNumbers()), edgeRats(), reversedRats(ratsOf(nearNumbers()))}
	for _, s := range []string{"0", "1/2 1/2", "-3 0 1/2 3 7 10", "10 7 3 0", "7 -3 10 1/2 7 0 3 -3", "3 3 3 3", "0 0 1"} {
		l = append(l, ratsOf(numbersOf(t, s)))
	}
	for i, bad := range badRats() {
		l = append(l, slices.Insert(ratsOf(numbersOf(t, "-3 0 1/2 3 7 10")), i%7, bad))
	}
	forAllRatLists(3, func(list []impl.Rat, _ []int) { l = append(l, list) })
	return l
}

func reversedRats(l []impl.Rat) []impl.Rat {
	slices.Reverse(l)
	return l
}

func TestListFunctionsLeaveTheirArgumentsAlone(t *testing.T) {
	numbers := append(ratsOf(numbersOf(t, "0 1/2 1/3 3 5 10 11")), append(edgeRats(), badRats()...)...)
	for i, l := range sampleRatLists(t) {
		inside, isUnchanged := framedRats(l)
		overwriteRats(impl.SortRats(inside))
		for k := range 20 {
			x, isSame := framedRats([]impl.Rat{numbers[(i+k*k)%len(numbers)]})
			impl.EventIndex(inside, x[0])
			impl.SlabOf(inside, x[0])
			if !isSame() {
				t.Fatalf("EventIndex or SlabOf of %v changed it", x)
			}
		}
		impl.IsAscending(inside)
		if !isUnchanged() {
			t.Fatalf("a function of the list %v, or a write to the result, changed it", l)
		}
	}
}

func TestListFunctionsTakeAnElementAsTheNumber(t *testing.T) {
	inside, isUnchanged := framedRats(ratsOf(numbersOf(t, "-3 0 1/2 3 7 10")))
	for k, x := range inside {
		if impl.EventIndex(inside, x) != k || impl.SlabOf(inside, x) != -1 || !isUnchanged() {
			t.Errorf("the element %d is not found, or it was changed", k)
		}
	}
}

// framedAreas lays every area, and the list of them, between others.
func framedAreas(areas [][]impl.Vec) (inside [][]impl.Vec, isUnchanged func() bool) {
	var rows, outer [][]impl.Vec
	for _, area := range slices.Concat(areasOf(vecs(-7, -7)), areas, slices.Repeat(areasOf(vecs(-7, -7)), 40)) {
		row, in := framedVecs(area)
		rows, outer = append(rows, row), append(outer, in)
	}
	wasRows, wasOuter := clonedLists(rows), clonedLists(outer)
	return outer[1 : 1+len(areas)], func() bool {
		return slices.EqualFunc(rows, wasRows, slices.Equal) && slices.EqualFunc(outer, wasOuter, slices.Equal)
	}
}

func TestEventsOfLeavesItsArgumentsAlone(t *testing.T) {
	samples := append(sampleSweeps(), sweepSample{boxOf(0, 0, 9, 9), sampleLists()[:40]})
	for _, bad := range inOrder(badPolygons())[:60] {
		samples = append(samples, sweepSample{boxOf(0, 0, 9, 9), areasOf(smallSquare(), bad, pentagon())})
	}
	for _, s := range samples {
		inside, isUnchanged := framedAreas(s.areas)
		overwriteRats(impl.EventsOf(s.box, inside))
		overwriteRats(impl.EventsOf(impl.Box{Low: s.box.High, High: s.box.Low}, inside))
		if !isUnchanged() {
			t.Fatalf("EventsOf(%v, %v), or a write to its result, changed the areas", s.box, s.areas)
		}
	}
}

// checkNewEachTime overwrites a result and asks for it again.
func checkNewEachTime(t *testing.T, name string, find func() []impl.Rat) {
	t.Helper()
	first := find()
	want := clonedRats(first)
	checkApart(t, name, partsOfRats(first), overwrite)
	overwriteRats(first)
	if got := find(); !sameRats(got, want) {
		t.Fatalf("%s is %s after its last result was changed, was %s", name, textOfRats(got), textOfRats(want))
	}
}

func TestEventResultsAreNewEachTime(t *testing.T) {
	for _, l := range sampleRatLists(t) {
		checkNewEachTime(t, "SortRats", func() []impl.Rat { return impl.SortRats(l) })
	}
	for _, s := range sampleSweeps() {
		checkNewEachTime(t, "EventsOf", func() []impl.Rat { return impl.EventsOf(s.box, s.areas) })
	}
}

// The numbers of the argument may share memory with each other, but those of the result do not.
func TestSortedNumbersShareNoMemory(t *testing.T) {
	row := []int{1, 2, 3, 4, 5}
	one := row[:1]
	var l []impl.Rat
	for n := 1; n <= len(row); n++ {
		l = append(l, fraction(false, row[:n], one), fraction(true, row[:n], one), fraction(false, one, row[:n]), fraction(true, one, row[:n]))
	}
	was := slices.Clone(row)
	for _, list := range [][]impl.Rat{l, reversedRats(slices.Clone(l)), slices.Repeat(l, 2), {l[0]}, {l[0], l[0]}} {
		checkSorted(t, "numbers of one row", list)
		checkNewEachTime(t, "SortRats", func() []impl.Rat { return impl.SortRats(list) })
		if !slices.Equal(row, was) {
			t.Fatalf("a write to the result changes the row: %v", row)
		}
	}
}
