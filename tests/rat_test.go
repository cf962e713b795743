package tests

import (
	"math"
	"math/big"
	"math/rand"
	"slices"
	"strings"
	"testing"

	"loop.example/g00811/impl"
)

// bigRatOf is the value of r, counted without the package.
func bigRatOf(r impl.Rat) *big.Rat {
	return new(big.Rat).SetFrac(signedBigOf(r.Num), bigOf(r.Den))
}

// ratOf is the fraction that the document asks for: the zero value if the numerator or the denominator is too long.
func ratOf(q *big.Rat) impl.Rat {
	num, den := bigIntOf(q.Num()), limbsOf(q.Denom())
	if q.Num().Sign() != 0 && len(num.Mag) == 0 || len(den) == 0 || len(num.Mag) > impl.MaxRat || len(den) > impl.MaxRat {
		return impl.Rat{}
	}
	return impl.Rat{Num: num, Den: den}
}

func sameRat(r, s impl.Rat) bool {
	return sameBigInt(r.Num, s.Num) && slices.Equal(r.Den, s.Den)
}

func isZeroRat(r impl.Rat) bool {
	return sameRat(r, impl.Rat{})
}

// fraction is made of limbs as they are, reduced or not.
func fraction(neg bool, num []int, den []int) impl.Rat {
	return impl.Rat{Num: impl.BigInt{Neg: neg, Mag: num}, Den: den}
}

func longest() []int { return repeated(limbTop, impl.MaxRat) }

// badRats are no fractions: a part that is no number or too long, a denominator of 0, and what is not reduced.
func badRats() []impl.Rat {
	one := []int{1}
	l := []impl.Rat{
		{}, fraction(false, []int{}, []int{}), fraction(false, one, nil), fraction(true, one, nil), fraction(false, one, []int{}), fraction(true, nil, nil),
		fraction(true, nil, one), fraction(true, []int{}, one), fraction(true, nil, []int{2}),
		fraction(false, nil, []int{2}), fraction(false, nil, []int{0, 1}), fraction(false, []int{2}, []int{4}), fraction(true, []int{2}, []int{4}),
		fraction(false, []int{3}, []int{3}), fraction(true, []int{6}, []int{2}), fraction(false, []int{0, 1}, []int{0, 1}), fraction(true, []int{0, 1}, []int{5}),
		fraction(false, longest(), longest()), fraction(false, longest(), []int{3}), fraction(false, []int{3}, longest()), fraction(false, unit(23), []int{2}),
		fraction(false, unit(24), one), fraction(true, unit(24), one), fraction(false, repeated(1, 25), unit(1)), fraction(false, unit(59), one),
		fraction(false, one, unit(24)), fraction(true, one, repeated(limbTop, 25)), fraction(false, one, unit(59)), fraction(false, unit(24), repeated(limbTop, 25)),
	}
	for _, bad := range badNats() {
		l = append(l, fraction(false, bad, one), fraction(true, bad, one), fraction(false, one, bad), fraction(true, one, bad), fraction(false, bad, bad))
		l = append(l, fraction(false, nil, bad), fraction(false, bad, nil), fraction(false, bad, []int{7}), fraction(false, []int{7}, bad))
	}
	return l
}

// edgeRats are 0 in both forms and all reduced fractions of these numbers, of up to MaxRat limbs, with either sign.
func edgeRats() []impl.Rat {
	parts := [][]int{{1}, {2}, {3}, {limbTop}, {0, 1}, {854775808, 223372036, 9}, repeated(limbTop, 12), unit(12), unit(23), longest()}
	l := []impl.Rat{fraction(false, nil, []int{1}), fraction(false, []int{}, []int{1})}
	seen := map[string]bool{}
	for _, num := range parts {
		for _, den := range parts {
			q := new(big.Rat).SetFrac(bigOf(num), bigOf(den))
			if seen[q.String()] {
				continue
			}
			seen[q.String()] = true
			l = append(l, ratOf(q), ratOf(new(big.Rat).Neg(q)))
		}
	}
	return l
}

// randomRat has a numerator and a denominator of up to most limbs each.
func randomRat(random *rand.Rand, most int) impl.Rat {
	den := randomNat(random, most)
	if len(den) == 0 {
		den = []int{1}
	}
	return ratOf(new(big.Rat).SetFrac(signedBigOf(randomBigInt(random, most)), bigOf(den)))
}

// ratPairs are all pairs of edge cases and random pairs of every size: with others, and with fractions from which and
// with which much is cancelled.
func ratPairs() [][2]impl.Rat {
	var pairs [][2]impl.Rat
	for _, r := range edgeRats() {
		for _, s := range edgeRats() {
			pairs = append(pairs, [2]impl.Rat{r, s})
		}
	}
	random := rand.New(rand.NewSource(30))
	for range 2500 {
		r, s := randomRat(random, 1+random.Intn(impl.MaxRat)), randomRat(random, 1+random.Intn(impl.MaxRat))
		value := bigRatOf(r)
		pairs = append(pairs, [2]impl.Rat{r, s}, [2]impl.Rat{r, ratOf(value)}, [2]impl.Rat{r, ratOf(new(big.Rat).Neg(value))})
		below := new(big.Rat).Sub(new(big.Rat).SetInt64(random.Int63n(100)), value)
		for _, related := range []*big.Rat{below, new(big.Rat).Quo(big.NewRat(random.Int63n(100), 7), nonzero(value))} {
			if t := ratOf(related); !isZeroRat(t) {
				pairs = append(pairs, [2]impl.Rat{r, t})
			}
		}
	}
	return pairs
}

func nonzero(q *big.Rat) *big.Rat {
	if q.Sign() == 0 {
		return big.NewRat(1, 1)
	}
	return q
}

func TestRatLimit(t *testing.T) {
	if impl.MaxRat != 24 {
		t.Errorf("MaxRat is %d", impl.MaxRat)
	}
}

func TestRatOk(t *testing.T) {
	for _, r := range edgeRats() {
		if !impl.RatOk(r) {
			t.Errorf("RatOk(%v) is false", r)
		}
	}
	for _, r := range badRats() {
		if impl.RatOk(r) {
			t.Errorf("RatOk(%v) is true", r)
		}
	}
	spare := fraction(false, make([]int, 0, 5), append(make([]int, 0, 5), 1))
	for _, r := range []impl.Rat{spare, fraction(true, longest(), unit(23)), fraction(false, unit(23), longest()), fraction(false, []int{7}, []int{1})} {
		if !impl.RatOk(r) {
			t.Errorf("RatOk(%v) is false", r)
		}
	}
}

// Any two small numbers are a fraction exactly if they have no common divisor but 1.
func TestRatOkOnSmallNumbers(t *testing.T) {
	for n := -40; n <= 40; n++ {
		for d := range 41 {
			num, den := impl.BigIntOf(n), impl.NatOf(d)
			want := d > 0 && new(big.Int).GCD(nil, nil, bigOf(num.Mag), big.NewInt(int64(d))).Int64() == 1
			if got := impl.RatOk(impl.Rat{Num: num, Den: den}); got != want {
				t.Errorf("RatOk of %d and %d is %v", n, d, got)
			}
		}
	}
}

// wantedRat is num / den, or the zero value where the document asks for it.
func wantedRat(num, den *big.Int) impl.Rat {
	if den.Sign() == 0 {
		return impl.Rat{}
	}
	return ratOf(new(big.Rat).SetFrac(num, den))
}

func TestRatOf(t *testing.T) {
	cases := []struct {
		n, d int
		want impl.Rat
	}{
		{6, -4, fraction(true, []int{3}, []int{2})}, {-6, 4, fraction(true, []int{3}, []int{2})},
		{6, 4, fraction(false, []int{3}, []int{2})}, {-6, -4, fraction(false, []int{3}, []int{2})},
		{0, 5, fraction(false, nil, []int{1})}, {0, -5, fraction(false, nil, []int{1})}, {0, 1, fraction(false, nil, []int{1})},
		{0, 0, impl.Rat{}}, {5, 0, impl.Rat{}}, {-5, 0, impl.Rat{}}, {math.MinInt, 0, impl.Rat{}}, {math.MaxInt, 0, impl.Rat{}},
		{5, 1, fraction(false, []int{5}, []int{1})}, {5, -1, fraction(true, []int{5}, []int{1})}, {5, 5, fraction(false, []int{1}, []int{1})},
		{math.MaxInt, 1, fraction(false, []int{854775807, 223372036, 9}, []int{1})},
		{math.MaxInt, math.MaxInt, fraction(false, []int{1}, []int{1})},
		{math.MinInt, 1, fraction(true, []int{854775808, 223372036, 9}, []int{1})},
		{math.MinInt, -1, fraction(false, []int{854775808, 223372036, 9}, []int{1})},
		{1, math.MinInt, fraction(true, []int{1}, []int{854775808, 223372036, 9})},
		{-3, math.MinInt, fraction(false, []int{3}, []int{854775808, 223372036, 9})},
		{math.MinInt, math.MinInt, fraction(false, []int{1}, []int{1})},
		{math.MinInt, math.MaxInt, fraction(true, []int{854775808, 223372036, 9}, []int{854775807, 223372036, 9})},
		{math.MinInt, 2, fraction(true, []int{427387904, 611686018, 4}, []int{1})},
	}
	for _, c := range cases {
		if got := impl.RatOf(c.n, c.d); !sameRat(got, c.want) {
			t.Errorf("RatOf(%d, %d) = %v, want %v", c.n, c.d, got, c.want)
		}
	}
	random := rand.New(rand.NewSource(31))
	ints := sampleInts()
	for range 20000 {
		n, d := ints[random.Intn(len(ints))], ints[random.Intn(len(ints))]
		if got, want := impl.RatOf(n, d), wantedRat(big.NewInt(int64(n)), big.NewInt(int64(d))); !sameRat(got, want) {
			t.Errorf("RatOf(%d, %d) = %v, want %v", n, d, got, want)
		}
	}
}

func TestRatFromInt(t *testing.T) {
	for _, n := range sampleInts() {
		if got, want := impl.RatFromInt(n), ratOf(new(big.Rat).SetInt64(int64(n))); !sameRat(got, want) {
			t.Errorf("RatFromInt(%d) = %v, want %v", n, got, want)
		}
	}
}

func TestRatMake(t *testing.T) {
	numbers := edgeBigInts()
	for _, num := range numbers {
		for _, den := range numbers {
			if got, want := impl.RatMake(num, den), wantedRat(signedBigOf(num), signedBigOf(den)); !sameRat(got, want) {
				t.Fatalf("RatMake(%v, %v) = %v, want %v", num, den, got, want)
			}
		}
	}
	random := rand.New(rand.NewSource(32))
	for range 6000 {
		factor := signedBigOf(randomBigInt(random, 1+random.Intn(36)))
		num := bigIntOf(new(big.Int).Mul(factor, signedBigOf(randomBigInt(random, 1+random.Intn(impl.MaxRat)))))
		den := bigIntOf(new(big.Int).Mul(factor, signedBigOf(randomBigInt(random, 1+random.Intn(impl.MaxRat)))))
		if got, want := impl.RatMake(num, den), wantedRat(signedBigOf(num), signedBigOf(den)); !sameRat(got, want) {
			t.Fatalf("RatMake(%v, %v) = %v, want %v", num, den, got, want)
		}
	}
}

func TestRatMakeRefusesWhatIsNoNumber(t *testing.T) {
	for _, bad := range badBigInts() {
		for _, good := range edgeBigInts() {
			for _, got := range []impl.Rat{impl.RatMake(bad, good), impl.RatMake(good, bad)} {
				if !isZeroRat(got) {
					t.Errorf("RatMake of %v and %v is %v", bad, good, got)
				}
			}
		}
		for _, other := range badBigInts() {
			if got := impl.RatMake(bad, other); !isZeroRat(got) {
				t.Errorf("RatMake(%v, %v) = %v", bad, other, got)
			}
		}
	}
}

// timesLimb is a, each limb multiplied by a factor that is small enough for it.
func timesLimb(a []int, factor int) []int {
	b := slices.Clone(a)
	for i := range b {
		b[i] *= factor
	}
	return b
}

// What counts is the length of the reduced parts: MaxRat limbs, or one more, before and after they are reduced.
func TestRatMakeAtTheLimitOfLimbs(t *testing.T) {
	one, base := []int{1}, []int{0, 1}
	ones24, ones25 := repeated(1, 24), repeated(1, 25)
	cases := []struct {
		name           string
		num, den       []int
		wantNum, wantD []int
	}{
		{"a numerator of 24 limbs", longest(), one, longest(), one},
		{"a denominator of 24 limbs", one, longest(), one, longest()},
		{"both of 24 limbs", longest(), unit(23), longest(), unit(23)},
		{"a numerator of 25 limbs", unit(24), one, nil, nil},
		{"a denominator of 25 limbs", one, unit(24), nil, nil},
		{"both of 25 limbs", repeated(limbTop, 25), unit(24), nil, nil},
		{"a numerator of 25 limbs that is reduced to 24", unit(24), base, unit(23), one},
		{"a denominator of 25 limbs that is reduced to 24", base, unit(24), one, unit(23)},
		{"a numerator of 26 limbs that is reduced to 25", unit(25), base, nil, nil},
		{"a denominator of 26 limbs that is reduced to 25", base, unit(25), nil, nil},
		{"a numerator of 25 limbs that is reduced within them", timesLimb(ones25, 4), []int{2}, nil, nil},
		{"a denominator of 25 limbs that is reduced within them", []int{2}, timesLimb(ones25, 4), nil, nil},
		{"24 limbs that are reduced within them", timesLimb(ones24, 4), []int{10}, timesLimb(ones24, 2), []int{5}},
		{"24 limbs over 25 limbs that are reduced to 1", append([]int{0}, longest()...), append([]int{0, 0}, longest()...), one, base},
		{"60 limbs over themselves", repeated(limbTop, 60), repeated(limbTop, 60), one, one},
		{"60 limbs that are reduced to 24", unit(59), unit(36), unit(23), one},
		{"60 limbs that are reduced to 25", unit(59), unit(35), nil, nil},
		{"0 over 25 limbs", nil, unit(24), nil, one},
		{"0 over 60 limbs", nil, repeated(limbTop, 60), nil, one},
	}
	for _, c := range cases {
		for _, neg := range []bool{false, true} {
			neg = neg && len(c.num) > 0
			want := impl.Rat{Num: impl.BigInt{Neg: neg && len(c.wantNum) > 0, Mag: c.wantNum}, Den: c.wantD}
			if got := impl.RatMake(impl.BigInt{Neg: neg, Mag: c.num}, impl.BigInt{Mag: c.den}); !sameRat(got, want) {
				t.Errorf("%s: %v, want %v", c.name, got, want)
			}
			if got := impl.RatMake(impl.BigInt{Mag: c.num}, impl.BigInt{Neg: neg, Mag: c.den}); !sameRat(got, want) {
				t.Errorf("%s, with the sign below: %v, want %v", c.name, got, want)
			}
		}
	}
}

// P15: every operation gives what big.Rat gives, or the zero value if that has too many limbs.
func TestRatOperationsGiveTheRightNumbers(t *testing.T) {
	for _, pair := range ratPairs() {
		r, s := pair[0], pair[1]
		a, b := bigRatOf(r), bigRatOf(s)
		var quotient impl.Rat
		if b.Sign() != 0 {
			quotient = ratOf(new(big.Rat).Quo(a, b))
		}
		least, greatest := r, s
		if a.Cmp(b) > 0 {
			least, greatest = s, r
		}
		cases := []struct {
			name      string
			got, want impl.Rat
		}{
			{"RatAdd", impl.RatAdd(r, s), ratOf(new(big.Rat).Add(a, b))},
			{"RatSub", impl.RatSub(r, s), ratOf(new(big.Rat).Sub(a, b))},
			{"RatMul", impl.RatMul(r, s), ratOf(new(big.Rat).Mul(a, b))},
			{"RatDiv", impl.RatDiv(r, s), quotient},
			{"RatNeg of the first", impl.RatNeg(r), ratOf(new(big.Rat).Neg(a))},
			{"RatMin", impl.RatMin(r, s), least},
			{"RatMax", impl.RatMax(r, s), greatest},
		}
		for _, c := range cases {
			if !sameRat(c.got, c.want) {
				t.Fatalf("%s of %v and %v is %v, want %v", c.name, r, s, c.got, c.want)
			}
		}
		if got, want := impl.RatCmp(r, s), a.Cmp(b); got != want {
			t.Fatalf("RatCmp(%v, %v) = %d, want %d", r, s, got, want)
		}
		if got, want := impl.RatSign(r), a.Sign(); got != want {
			t.Fatalf("RatSign(%v) = %d, want %d", r, got, want)
		}
		if got, want := impl.RatEqual(r, s), a.Cmp(b) == 0; got != want {
			t.Fatalf("RatEqual(%v, %v) = %v", r, s, got)
		}
	}
}

// What the operations calculate with may be longer than MaxRat limbs; only the reduced result must not be.
func TestRatResultsAtTheLimitOfLimbs(t *testing.T) {
	one := impl.RatFromInt(1)
	top, lowest := fraction(false, longest(), []int{1}), fraction(true, longest(), []int{1})
	smallest := fraction(false, []int{1}, longest())
	mixed := fraction(false, longest(), unit(23))
	over12, over12Plus := fraction(false, []int{1}, unit(12)), fraction(false, []int{1}, append([]int{1}, unit(11)...))
	over12Minus := fraction(false, []int{1}, repeated(limbTop, 12))
	almostHalf := impl.RatFromInt(499999999)
	cases := []struct {
		name      string
		got, want impl.Rat
	}{
		{"the greatest fraction + 0", impl.RatAdd(top, impl.RatFromInt(0)), top},
		{"the greatest fraction + 1", impl.RatAdd(top, one), impl.Rat{}},
		{"the greatest fraction - 1, + 1", impl.RatAdd(impl.RatSub(top, one), one), top},
		{"the greatest fraction - -1", impl.RatSub(top, impl.RatNeg(one)), impl.Rat{}},
		{"the least fraction - 1", impl.RatSub(lowest, one), impl.Rat{}},
		{"the greatest fraction + the least one", impl.RatAdd(top, lowest), impl.RatFromInt(0)},
		{"the greatest fraction - the least one", impl.RatSub(top, lowest), impl.Rat{}},
		{"1 / Base^12 + 1 / (Base^12 - 1)", impl.RatAdd(over12, over12Minus), fraction(false, append([]int{limbTop}, append(repeated(limbTop, 11), 1)...), append(make([]int, 12), repeated(limbTop, 12)...))},
		{"1 / Base^12 + 1 / (Base^12 + 1)", impl.RatAdd(over12, over12Plus), impl.Rat{}},
		{"the smallest fraction + the greatest one", impl.RatAdd(smallest, top), impl.Rat{}},
		{"the smallest fraction - itself", impl.RatSub(smallest, smallest), impl.RatFromInt(0)},
		{"Base^12 * Base^11", impl.RatMul(fraction(false, unit(12), []int{1}), fraction(false, unit(11), []int{1})), fraction(false, unit(23), []int{1})},
		{"Base^12 * Base^12", impl.RatMul(fraction(false, unit(12), []int{1}), fraction(false, unit(12), []int{1})), impl.Rat{}},
		{"Base^-12 * Base^-11", impl.RatMul(over12, fraction(true, []int{1}, unit(11))), fraction(true, []int{1}, unit(23))},
		{"Base^-12 * Base^-12", impl.RatMul(over12, over12), impl.Rat{}},
		{"the greatest fraction * the smallest one", impl.RatMul(top, smallest), one},
		{"24 limbs over 24 limbs * the inverse", impl.RatMul(mixed, fraction(false, unit(23), longest())), one},
		{"24 limbs over 24 limbs * itself", impl.RatMul(mixed, mixed), impl.Rat{}},
		{"the greatest fraction * 0", impl.RatMul(top, impl.RatFromInt(0)), impl.RatFromInt(0)},
		{"the greatest fraction / itself", impl.RatDiv(top, top), one},
		{"24 limbs over 24 limbs / itself", impl.RatDiv(mixed, mixed), one},
		{"the greatest fraction / the smallest one", impl.RatDiv(top, smallest), impl.Rat{}},
		{"1 / the greatest fraction", impl.RatDiv(one, top), smallest},
		{"1 / the smallest fraction", impl.RatDiv(one, smallest), top},
		{"-1 / the smallest fraction", impl.RatDiv(impl.RatNeg(one), smallest), lowest},
		{"Base^23 * 499999999 * 2", impl.RatMul(impl.RatMul(fraction(false, unit(23), []int{1}), almostHalf), impl.RatFromInt(2)), fraction(false, append(make([]int, 23), 999999998), []int{1})},
		{"Base^23 * 500000000 * 2", impl.RatMul(fraction(false, append(make([]int, 23), 500000000), []int{1}), impl.RatFromInt(2)), impl.Rat{}},
	}
	for _, c := range cases {
		if !sameRat(c.got, c.want) {
			t.Errorf("%s is %v, want %v", c.name, c.got, c.want)
		}
	}
}

// The products that decide have 47 or 48 limbs; those of close fractions differ in the least significant limb only.
func TestRatCmpOfLongFractions(t *testing.T) {
	top, below := longest(), append([]int{limbTop - 2}, repeated(limbTop, 23)...)
	above, under := fraction(false, top, below), fraction(false, unit(23), append([]int{limbTop}, append(make([]int, 22), 1)...))
	inverse := fraction(false, below, top)
	closeBy := fraction(false, below, append([]int{limbTop - 4}, repeated(limbTop, 23)...))
	cases := []struct {
		r, s impl.Rat
		want int
	}{
		{above, closeBy, -1}, {closeBy, above, 1}, {impl.RatNeg(above), impl.RatNeg(closeBy), 1},
		{above, inverse, 1}, {inverse, above, -1}, {above, above, 0}, {above, impl.RatFromInt(1), 1}, {inverse, impl.RatFromInt(1), -1},
		{above, under, 1}, {under, inverse, -1}, {impl.RatNeg(above), impl.RatNeg(inverse), -1}, {impl.RatNeg(inverse), above, -1},
		{above, impl.RatNeg(above), 1}, {impl.RatFromInt(0), impl.RatNeg(above), 1}, {impl.RatFromInt(0), inverse, -1},
		{fraction(false, top, unit(23)), fraction(false, below, unit(23)), 1}, {fraction(false, unit(23), top), fraction(false, unit(23), below), -1},
	}
	for _, c := range cases {
		if got := impl.RatCmp(c.r, c.s); got != c.want {
			t.Errorf("RatCmp(%v, %v) = %d, want %d", c.r, c.s, got, c.want)
		}
	}
}

func TestRatDivByZero(t *testing.T) {
	for _, r := range edgeRats() {
		for _, zero := range []impl.Rat{impl.RatFromInt(0), fraction(false, []int{}, []int{1})} {
			if got := impl.RatDiv(r, zero); !isZeroRat(got) {
				t.Errorf("RatDiv(%v, 0) = %v", r, got)
			}
			if got := impl.RatMul(r, zero); !sameRat(got, impl.RatFromInt(0)) {
				t.Errorf("RatMul(%v, 0) = %v", r, got)
			}
		}
	}
	for _, d := range []int{1, -1, 7, math.MinInt} {
		if got := impl.RatDiv(impl.RatFromInt(0), impl.RatFromInt(d)); !sameRat(got, impl.RatFromInt(0)) {
			t.Errorf("0 / %d is %v", d, got)
		}
	}
}

// RatEqual compares what is there, valid or not. A nil slice equals an empty one.
func TestRatEqual(t *testing.T) {
	cases := []struct {
		r, s impl.Rat
		want bool
	}{
		{impl.Rat{}, impl.Rat{}, true},
		{impl.Rat{}, fraction(false, []int{}, []int{}), true},
		{fraction(false, nil, []int{1}), fraction(false, []int{}, []int{1}), true},
		{fraction(false, []int{2}, []int{4}), fraction(false, []int{2}, []int{4}), true},
		{fraction(false, []int{2}, []int{4}), fraction(false, []int{1}, []int{2}), false},
		{fraction(true, nil, []int{1}), fraction(true, nil, []int{1}), true},
		{fraction(true, nil, []int{1}), fraction(false, nil, []int{1}), false},
		{impl.Rat{}, fraction(false, nil, []int{1}), false},
		{impl.RatOf(1, 2), impl.RatOf(-1, 2), false},
		{impl.RatOf(1, 2), impl.RatOf(2, 4), true},
		{impl.RatOf(1, 2), impl.RatOf(1, 3), false},
		{impl.RatOf(1, 2), impl.RatOf(3, 2), false},
		{fraction(false, []int{1, 2}, []int{1}), fraction(false, []int{1}, []int{1}), false},
		{fraction(false, []int{1}, []int{1, 2}), fraction(false, []int{1}, []int{1}), false},
		{fraction(false, []int{5}, []int{7}), fraction(false, []int{7}, []int{5}), false},
	}
	for _, c := range cases {
		if got := impl.RatEqual(c.r, c.s); got != c.want {
			t.Errorf("RatEqual(%v, %v) = %v", c.r, c.s, got)
		}
		if got := impl.RatEqual(c.s, c.r); got != c.want {
			t.Errorf("RatEqual(%v, %v) = %v", c.s, c.r, got)
		}
	}
	all := append(badRats(), edgeRats()...)
	for _, r := range all {
		for _, s := range all {
			if got, want := impl.RatEqual(r, s), sameRat(r, s); got != want {
				t.Fatalf("RatEqual(%v, %v) = %v", r, s, got)
			}
		}
	}
}

func TestRatFunctionsRefuseWhatIsNoFraction(t *testing.T) {
	bad := badRats()
	for _, r := range bad {
		for _, s := range edgeRats() {
			refuseRats(t, r, s)
			refuseRats(t, s, r)
		}
		for _, s := range bad {
			refuseRats(t, r, s)
		}
		if got := impl.RatNeg(r); !isZeroRat(got) {
			t.Errorf("RatNeg(%v) = %v", r, got)
		}
		if got := impl.RatSign(r); got != 0 {
			t.Errorf("RatSign(%v) = %d", r, got)
		}
		if got := impl.FormatRat(r); got != "" {
			t.Errorf("FormatRat(%v) = %q", r, got)
		}
	}
}

func refuseRats(t *testing.T, r, s impl.Rat) {
	t.Helper()
	if impl.RatCmp(r, s) != 0 {
		t.Errorf("RatCmp(%v, %v) is not 0", r, s)
	}
	results := []impl.Rat{impl.RatAdd(r, s), impl.RatSub(r, s), impl.RatMul(r, s), impl.RatDiv(r, s), impl.RatMin(r, s), impl.RatMax(r, s)}
	for i, got := range results {
		if !isZeroRat(got) {
			t.Errorf("result %d for %v and %v is %v", i, r, s, got)
		}
	}
}

// A fraction that becomes too large makes everything that is computed from it the zero value.
func TestRatThatIsTooLargeSpreads(t *testing.T) {
	large := impl.RatFromInt(7)
	for range 20 {
		large = impl.RatMul(large, large)
	}
	one := impl.RatFromInt(1)
	for i, got := range []impl.Rat{
		large, impl.RatSub(large, large), impl.RatMul(large, impl.RatFromInt(0)), impl.RatDiv(one, large), impl.RatAdd(one, large),
		impl.RatNeg(large), impl.RatMin(one, large), impl.RatMax(large, one), impl.RatDiv(large, large),
	} {
		if !isZeroRat(got) {
			t.Errorf("result %d is %v", i, got)
		}
	}
}

var rats = numbers[impl.Rat]{
	add: impl.RatAdd, sub: impl.RatSub, mul: impl.RatMul, neg: impl.RatNeg, cmp: impl.RatCmp,
	of: impl.RatFromInt, ok: impl.RatOk, same: impl.RatEqual,
}

// P1: the laws of arithmetic, by the package's functions alone. The fractions are small enough for all results.
func TestRatLaws(t *testing.T) {
	random := rand.New(rand.NewSource(33))
	for range 4000 {
		most := 1 + random.Intn(4)
		x, y, z := randomRat(random, most), randomRat(random, most), randomRat(random, most)
		rats.checkArithmetic(t, x, y, z)
		rats.checkOrder(t, x, y, z)
		checkRatDivision(t, x, y, z)
		checkRatEnds(t, x, y)
	}
}

func checkRatDivision(t *testing.T, x, y, z impl.Rat) {
	t.Helper()
	mul, div, one := impl.RatMul, impl.RatDiv, impl.RatFromInt(1)
	rats.law(t, "x / 1 = x", div(x, one), x, x)
	rats.law(t, "the fraction of its parts", impl.RatMake(x.Num, impl.BigInt{Mag: x.Den}), x, x)
	if impl.RatSign(y) == 0 {
		return
	}
	rats.law(t, "y / y = 1", div(y, y), one, y)
	rats.law(t, "x / y * y = x", mul(div(x, y), y), x, x, y)
	rats.law(t, "x * y / y = x", div(mul(x, y), y), x, x, y)
	rats.law(t, "x / y = x * (1 / y)", div(x, y), mul(x, div(one, y)), x, y)
	rats.law(t, "1 / (1 / y) = y", div(one, div(one, y)), y, y)
	rats.law(t, "x / -y = -(x / y)", div(x, impl.RatNeg(y)), impl.RatNeg(div(x, y)), x, y)
	rats.law(t, "(x + z) / y = x / y + z / y", div(impl.RatAdd(x, z), y), impl.RatAdd(div(x, y), div(z, y)), x, y, z)
	if impl.RatSign(z) != 0 {
		rats.law(t, "x / y / z = x / (y * z)", div(div(x, y), z), div(x, mul(y, z)), x, y, z)
	}
}

func checkRatEnds(t *testing.T, x, y impl.Rat) {
	t.Helper()
	if impl.RatSign(impl.RatSub(x, y)) != impl.RatCmp(x, y) {
		t.Fatalf("the sign of the difference of %v and %v does not agree with their order", x, y)
	}
	least, greatest := impl.RatMin(x, y), impl.RatMax(x, y)
	if impl.RatCmp(least, x) > 0 || impl.RatCmp(least, y) > 0 || impl.RatCmp(greatest, x) < 0 || impl.RatCmp(greatest, y) < 0 {
		t.Fatalf("the ends of %v and %v are %v and %v", x, y, least, greatest)
	}
	rats.law(t, "min + max = x + y", impl.RatAdd(least, greatest), impl.RatAdd(x, y), x, y)
}

func TestFormatRat(t *testing.T) {
	cases := []struct {
		r    impl.Rat
		want string
	}{
		{impl.RatFromInt(0), "0"},
		{fraction(false, []int{}, []int{1}), "0"},
		{impl.RatFromInt(7), "7"},
		{impl.RatFromInt(-7), "-7"},
		{impl.RatOf(6, -4), "-3/2"},
		{impl.RatOf(1, 2), "1/2"},
		{impl.RatOf(2, 4), "1/2"},
		{impl.RatOf(1, 10), "1/10"},
		{impl.RatOf(-1, impl.Base), "-1/1000000000"},
		{impl.RatOf(math.MinInt, 7), "-9223372036854775808/7"},
		{fraction(true, []int{7, 0, 1}, []int{2, 1}), "-1000000000000000007/1000000002"},
		{fraction(false, []int{1}, []int{1, 1}), "1/1000000001"},
		{impl.Rat{}, ""},
	}
	for _, c := range cases {
		if got := impl.FormatRat(c.r); got != c.want {
			t.Errorf("FormatRat(%v) = %q, want %q", c.r, got, c.want)
		}
	}
}

// P1: a fraction is recovered from its text.
func TestRatIsRecoveredFromItsText(t *testing.T) {
	random := rand.New(rand.NewSource(34))
	fractions := edgeRats()
	for range 3000 {
		fractions = append(fractions, randomRat(random, 1+random.Intn(impl.MaxRat)))
	}
	for _, r := range fractions {
		s := impl.FormatRat(r)
		if want := bigRatOf(r).RatString(); s != want {
			t.Errorf("FormatRat(%v) = %q, want %q", r, s, want)
		}
		if got, ok := impl.ParseRat(s); !sameRat(got, r) || !ok {
			t.Errorf("ParseRat(%q) = %v, %v, want %v", s, got, ok, r)
		}
	}
}

func TestParseRatRefusesWhatFormatRatNeverWrites(t *testing.T) {
	nines, power := strings.Repeat("9", 9*impl.MaxRat), "1"+strings.Repeat("0", 9*impl.MaxRat)
	bad := []string{
		"", "-0", "+0", "00", "01", "-01", "+1", "--1", "-", "/", "-/", "1/", "/1", "/2", "-/2", "1//2", "1/2/", "/1/2", "1/2/3", "1/1/1",
		"0/1", "-0/1", "0/2", "-0/2", "1/1", "-1/1", "5/1", "2/2", "2/4", "-2/4", "6/3", "4/2", "10/100", "0/0", "1/0", "-1/0", "1/00",
		"1/-2", "-1/-2", "1/-1", "1/+2", "1/02", "01/2", "+1/2", "1 /2", "1/ 2", " 1/2", "1/2 ", "1/2\n", "\n1/2", "1\n/2", "1 2", "1/2 3",
		"1.5", "0.5", "1e3", "1e3/7", "1/1e3", "1,000", "1_0/7", "0x1/2", "x", "x/2", "1/x", "1:2", "1\\2", "1\u20442", "1\u22152", "\u00bd", "\u0661/2", "1/\u0662",
		"1\x00/2", "1/2\x00", "\x001/2", power, "-" + power, power + "/7", "7/" + power, "1/" + power, "-1/" + power, power + "/" + nines, nines + "/" + power,
		nines + "/" + nines, nines + "/3", "3/" + nines, nines + "/1", "0/" + power, strings.Repeat("9", 541), "1/" + strings.Repeat("9", 541),
		strings.Repeat("9", 540) + "/2", strings.Repeat("9", 5000), "1/" + strings.Repeat("9", 5000), strings.Repeat("/", 50),
	}
	for _, s := range notUTF8 {
		bad = append(bad, s, s+"/2", "1/"+s, "1/2"+s)
	}
	for _, s := range bad {
		if r, ok := impl.ParseRat(s); !isZeroRat(r) || ok {
			t.Errorf("ParseRat(%.30q) = %v, %v, want the zero value, false", s, r, ok)
		}
	}
}

func TestParseRatAtTheLimitOfLimbs(t *testing.T) {
	nines, power := strings.Repeat("9", 9*impl.MaxRat), "1"+strings.Repeat("0", 9*(impl.MaxRat-1))
	cases := map[string]impl.Rat{
		nines: fraction(false, longest(), []int{1}), "-" + nines: fraction(true, longest(), []int{1}),
		"1/" + nines: fraction(false, []int{1}, longest()), "-" + power + "/" + nines: fraction(true, unit(23), longest()),
		nines + "/" + power: fraction(false, longest(), unit(23)), power: fraction(false, unit(23), []int{1}), "-1/" + power: fraction(true, []int{1}, unit(23)),
	}
	for s, want := range cases {
		if got, ok := impl.ParseRat(s); !sameRat(got, want) || !ok {
			t.Errorf("ParseRat(%.30q) = %v, %v, want %v", s, got, ok, want)
		}
	}
}

// Every text of up to six of these bytes is a fraction's text exactly if big.Rat writes it.
func TestParseRatOnAllShortTexts(t *testing.T) {
	forAllTexts("-+/0124 ", 6, func(s string) {
		value, ok := new(big.Rat).SetString(s)
		ok = ok && value.RatString() == s
		var want impl.Rat
		if ok {
			want = ratOf(value)
		}
		if got, gotOk := impl.ParseRat(s); gotOk != ok || !sameRat(got, want) {
			t.Errorf("ParseRat(%q) = %v, %v, want %v, %v", s, got, gotOk, want, ok)
		}
	})
}

// ratResults are the results of all functions of fractions that return one.
func ratResults(r, s impl.Rat) map[string]impl.Rat {
	impl.RatOk(r)
	impl.RatCmp(r, s)
	impl.RatSign(r)
	impl.RatEqual(r, s)
	impl.FormatRat(r)
	return map[string]impl.Rat{
		"RatAdd": impl.RatAdd(r, s), "RatSub": impl.RatSub(r, s), "RatMul": impl.RatMul(r, s), "RatDiv": impl.RatDiv(r, s),
		"RatNeg": impl.RatNeg(r), "RatMin": impl.RatMin(r, s), "RatMax": impl.RatMax(r, s),
		"RatMake of the numerators": impl.RatMake(r.Num, s.Num), "RatMake of the parts": impl.RatMake(r.Num, impl.BigInt{Mag: r.Den}),
	}
}

func overwriteRat(r impl.Rat) {
	overwrite(r.Num.Mag)
	overwrite(r.Den)
}

// sampleRats are edge cases with each other and what is no fraction.
func sampleRats() [][2]impl.Rat {
	var pairs [][2]impl.Rat
	edges := edgeRats()
	for i, r := range edges {
		for j := i % 3; j < len(edges); j += 3 {
			pairs = append(pairs, [2]impl.Rat{r, edges[j]})
		}
	}
	for _, bad := range badRats() {
		pairs = append(pairs, [2]impl.Rat{bad, impl.RatOf(-1, 2)}, [2]impl.Rat{impl.RatOf(1, 3), bad})
	}
	return pairs
}

// framedRat lays both parts of r into rows of their own.
func framedRat(r impl.Rat) (rows [2][]int, inside impl.Rat) {
	numRow, num := framed(r.Num.Mag)
	denRow, den := framed(r.Den)
	return [2][]int{numRow, denRow}, fraction(r.Num.Neg, num, den)
}

func TestRatFunctionsLeaveTheirArgumentsAlone(t *testing.T) {
	for _, pair := range sampleRats() {
		rowsR, r := framedRat(pair[0])
		rowsS, s := framedRat(pair[1])
		rows := [][]int{rowsR[0], rowsR[1], rowsS[0], rowsS[1]}
		var was [][]int
		for _, row := range rows {
			was = append(was, slices.Clone(row))
		}
		for name, result := range ratResults(r, s) {
			overwriteRat(result)
			for i, row := range rows {
				if !slices.Equal(row, was[i]) {
					t.Fatalf("%s of %v and %v, or a write to its result, changed an argument", name, pair[0], pair[1])
				}
			}
		}
	}
}

// Both arguments, and even the numerator and the denominator, may be one slice.
func TestRatArgumentsMayBeTheSameSlice(t *testing.T) {
	for _, part := range [][]int{{1}, {7}, unit(12), longest()} {
		row, mag := framed(part)
		was := slices.Clone(row)
		for _, r := range []impl.Rat{fraction(false, mag, []int{1}), fraction(true, []int{1}, mag), fraction(true, mag, mag)} {
			for _, s := range []impl.Rat{r, fraction(!r.Num.Neg, r.Num.Mag, r.Den), fraction(true, r.Den, r.Num.Mag)} {
				for name, result := range ratResults(r, s) {
					overwriteRat(result)
					if !slices.Equal(row, was) {
						t.Fatalf("%s of %v and %v changed them", name, r, s)
					}
				}
			}
		}
	}
}

// The numerator and the denominator of a result share no memory, not even behind their ends.
func TestRatResultsHaveTheirPartsApart(t *testing.T) {
	check := func(name string, r impl.Rat) {
		t.Helper()
		num, den := slices.Clone(r.Num.Mag), slices.Clone(r.Den)
		overwrite(r.Num.Mag)
		if !slices.Equal(r.Den, den) {
			t.Fatalf("a write to the numerator %v of %s changes the denominator", num, name)
		}
		copy(r.Num.Mag, num)
		overwrite(r.Den)
		if !slices.Equal(r.Num.Mag, num) {
			t.Fatalf("a write to the denominator %v of %s changes the numerator", den, name)
		}
	}
	for _, pair := range sampleRats() {
		for name, result := range ratResults(pair[0], pair[1]) {
			check(name, result)
		}
		if r, ok := impl.ParseRat(impl.FormatRat(pair[0])); ok {
			check("ParseRat", r)
		}
	}
	one := []int{1}
	for name, result := range ratResults(fraction(false, one, one), fraction(true, one, one)) {
		check(name, result)
	}
	check("RatFromInt", impl.RatFromInt(1))
	check("RatOf", impl.RatOf(1, 1))
	check("RatMake", impl.RatMake(impl.BigInt{Mag: one}, impl.BigInt{Mag: one}))
}

func TestRatResultsAreNewEachTime(t *testing.T) {
	makers := map[string]func() impl.Rat{
		"RatOf(-5, 3)":       func() impl.Rat { return impl.RatOf(-5, 3) },
		"RatOf(0, 3)":        func() impl.Rat { return impl.RatOf(0, 3) },
		"RatFromInt(0)":      func() impl.Rat { return impl.RatFromInt(0) },
		"RatFromInt(1)":      func() impl.Rat { return impl.RatFromInt(1) },
		"ParseRat(-12)":      func() impl.Rat { r, _ := impl.ParseRat("-12"); return r },
		"ParseRat(1/2)":      func() impl.Rat { r, _ := impl.ParseRat("1/2"); return r },
		"RatSub(1/3, 1/3)":   func() impl.Rat { return impl.RatSub(impl.RatOf(1, 3), impl.RatOf(1, 3)) },
		"RatNeg(-1/2)":       func() impl.Rat { return impl.RatNeg(impl.RatOf(-1, 2)) },
		"RatMin(1/2, 2)":     func() impl.Rat { return impl.RatMin(impl.RatOf(1, 2), impl.RatFromInt(2)) },
		"RatDiv(1/2, -3/4)":  func() impl.Rat { return impl.RatDiv(impl.RatOf(1, 2), impl.RatOf(-3, 4)) },
		"RatMul(0, -3/4)":    func() impl.Rat { return impl.RatMul(impl.RatFromInt(0), impl.RatOf(-3, 4)) },
		"RatMake(Base, -10)": func() impl.Rat { return impl.RatMake(impl.BigIntOf(impl.Base), impl.BigIntOf(-10)) },
	}
	for name, build := range makers {
		want := bigRatOf(build())
		overwriteRat(build())
		if got := bigRatOf(build()); got.Cmp(want) != 0 {
			t.Errorf("%s is %v after its last result was changed, was %v", name, got, want)
		}
	}
}
