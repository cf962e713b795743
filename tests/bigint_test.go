package tests

import (
	"math"
	"math/big"
	"math/rand"
	"slices"
	"strings"
	"testing"

	"loop.example/g00811/impl"
)

// signedBigOf is the value of x, counted without the package.
func signedBigOf(x impl.BigInt) *big.Int {
	n := bigOf(x.Mag)
	if x.Neg {
		n.Neg(n)
	}
	return n
}

// bigIntOf is the BigInt that the document asks for: the zero value if n needs more than MaxLimbs limbs.
func bigIntOf(n *big.Int) impl.BigInt {
	mag := limbsOf(new(big.Int).Abs(n))
	return impl.BigInt{Neg: n.Sign() < 0 && len(mag) > 0, Mag: mag}
}

func sameBigInt(x, y impl.BigInt) bool {
	return x.Neg == y.Neg && slices.Equal(x.Mag, y.Mag)
}

func isZeroBigInt(x impl.BigInt) bool {
	return sameBigInt(x, impl.BigInt{})
}

// badBigInts are no big integers: 0 with a sign, and magnitudes that are no natural numbers.
func badBigInts() []impl.BigInt {
	l := []impl.BigInt{{Neg: true}, {Neg: true, Mag: []int{}}}
	for _, mag := range badNats() {
		l = append(l, impl.BigInt{Mag: mag}, impl.BigInt{Neg: true, Mag: mag})
	}
	return l
}

// edgeBigInts are the edge cases of the magnitudes with either sign, but for 0.
func edgeBigInts() []impl.BigInt {
	var l []impl.BigInt
	for _, mag := range edgeNats() {
		l = append(l, impl.BigInt{Mag: mag})
		if len(mag) > 0 {
			l = append(l, impl.BigInt{Neg: true, Mag: mag})
		}
	}
	return l
}

func randomBigInt(random *rand.Rand, most int) impl.BigInt {
	mag := randomNat(random, most)
	return impl.BigInt{Neg: len(mag) > 0 && random.Intn(2) == 0, Mag: mag}
}

// bigIntPairs are all pairs of edge cases, random pairs of every size, and numbers with their equals and opposites.
func bigIntPairs() [][2]impl.BigInt {
	var pairs [][2]impl.BigInt
	for _, x := range edgeBigInts() {
		for _, y := range edgeBigInts() {
			pairs = append(pairs, [2]impl.BigInt{x, y})
		}
	}
	random := rand.New(rand.NewSource(20))
	for range 5000 {
		x, y := randomBigInt(random, 1+random.Intn(impl.MaxLimbs)), randomBigInt(random, 1+random.Intn(impl.MaxLimbs))
		pairs = append(pairs, [2]impl.BigInt{x, y}, [2]impl.BigInt{x, bigIntOf(signedBigOf(x))})
		pairs = append(pairs, [2]impl.BigInt{x, bigIntOf(new(big.Int).Neg(signedBigOf(x)))})
	}
	return pairs
}

func TestBigIntOk(t *testing.T) {
	for _, x := range edgeBigInts() {
		if !impl.BigIntOk(x) {
			t.Errorf("BigIntOk(%v) is false", x)
		}
	}
	for _, x := range badBigInts() {
		if impl.BigIntOk(x) {
			t.Errorf("BigIntOk(%v) is true", x)
		}
	}
	for _, zero := range []impl.BigInt{{}, {Mag: []int{}}, {Mag: make([]int, 0, 5)}} {
		if !impl.BigIntOk(zero) {
			t.Errorf("BigIntOk(%v) is false", zero)
		}
	}
}

func TestBigIntOf(t *testing.T) {
	cases := []struct {
		n    int
		want impl.BigInt
	}{
		{0, impl.BigInt{}},
		{1, impl.BigInt{Mag: []int{1}}},
		{-1, impl.BigInt{Neg: true, Mag: []int{1}}},
		{limbTop, impl.BigInt{Mag: []int{limbTop}}},
		{-impl.Base, impl.BigInt{Neg: true, Mag: []int{0, 1}}},
		{math.MaxInt, impl.BigInt{Mag: []int{854775807, 223372036, 9}}},
		{math.MinInt, impl.BigInt{Neg: true, Mag: []int{854775808, 223372036, 9}}},
		{math.MinInt + 1, impl.BigInt{Neg: true, Mag: []int{854775807, 223372036, 9}}},
	}
	for _, c := range cases {
		if got := impl.BigIntOf(c.n); !sameBigInt(got, c.want) {
			t.Errorf("BigIntOf(%d) = %v, want %v", c.n, got, c.want)
		}
	}
	for _, n := range sampleInts() {
		if got, want := impl.BigIntOf(n), bigIntOf(big.NewInt(int64(n))); !sameBigInt(got, want) {
			t.Errorf("BigIntOf(%d) = %v, want %v", n, got, want)
		}
	}
}

func TestBigIntToInt(t *testing.T) {
	for _, n := range sampleInts() {
		if got, ok := impl.BigIntToInt(impl.BigIntOf(n)); n != math.MinInt && (got != n || !ok) {
			t.Errorf("BigIntToInt(BigIntOf(%d)) = %d, %v", n, got, ok)
		}
	}
	numbers := edgeBigInts()
	random := rand.New(rand.NewSource(21))
	for range 20000 {
		numbers = append(numbers, randomBigInt(random, 3))
	}
	for _, x := range numbers {
		want, fits := 0, bigOf(x.Mag).IsInt64()
		if fits {
			want = int(signedBigOf(x).Int64())
		}
		if got, ok := impl.BigIntToInt(x); got != want || ok != fits {
			t.Errorf("BigIntToInt(%v) = %d, %v, want %d, %v", x, got, ok, want, fits)
		}
	}
}

// The least int has a magnitude that is too great, as the document says of it.
func TestBigIntToIntAtTheEndsOfTheRange(t *testing.T) {
	greatest, above := []int{854775807, 223372036, 9}, []int{854775808, 223372036, 9}
	if got, ok := impl.BigIntToInt(impl.BigInt{Mag: greatest}); got != math.MaxInt || !ok {
		t.Errorf("the greatest int is read as %d, %v", got, ok)
	}
	if got, ok := impl.BigIntToInt(impl.BigInt{Neg: true, Mag: greatest}); got != -math.MaxInt || !ok {
		t.Errorf("the negative of the greatest int is read as %d, %v", got, ok)
	}
	refused := append(badBigInts(), impl.BigInt{Mag: above}, impl.BigInt{Neg: true, Mag: above}, impl.BigIntOf(math.MinInt))
	for _, x := range refused {
		if got, ok := impl.BigIntToInt(x); got != 0 || ok {
			t.Errorf("BigIntToInt(%v) = %d, %v, want 0, false", x, got, ok)
		}
	}
}

// P15: every operation gives what big.Int gives, or the zero value if that has too many limbs.
func TestBigIntOperationsGiveTheRightNumbers(t *testing.T) {
	for _, pair := range bigIntPairs() {
		x, y := pair[0], pair[1]
		a, b := signedBigOf(x), signedBigOf(y)
		if got, want := impl.BigIntCmp(x, y), a.Cmp(b); got != want {
			t.Fatalf("BigIntCmp(%v, %v) = %d, want %d", x, y, got, want)
		}
		if got, want := impl.BigIntAdd(x, y), bigIntOf(new(big.Int).Add(a, b)); !sameBigInt(got, want) {
			t.Fatalf("BigIntAdd(%v, %v) = %v, want %v", x, y, got, want)
		}
		if got, want := impl.BigIntSub(x, y), bigIntOf(new(big.Int).Sub(a, b)); !sameBigInt(got, want) {
			t.Fatalf("BigIntSub(%v, %v) = %v, want %v", x, y, got, want)
		}
		if got, want := impl.BigIntMul(x, y), bigIntOf(new(big.Int).Mul(a, b)); !sameBigInt(got, want) {
			t.Fatalf("BigIntMul(%v, %v) = %v, want %v", x, y, got, want)
		}
		if got, want := impl.BigIntNeg(x), bigIntOf(new(big.Int).Neg(a)); !sameBigInt(got, want) {
			t.Fatalf("BigIntNeg(%v) = %v, want %v", x, got, want)
		}
		checkFloorDiv(t, x, y.Mag)
	}
}

// big.Int's DivMod rounds down for a positive divisor, and its remainder is never negative.
func checkFloorDiv(t *testing.T, x impl.BigInt, m []int) {
	t.Helper()
	q, r := impl.BigIntFloorDiv(x, m)
	var wantQ impl.BigInt
	var wantR []int
	if len(m) > 0 {
		quotient, rest := new(big.Int).DivMod(signedBigOf(x), bigOf(m), new(big.Int))
		wantQ, wantR = bigIntOf(quotient), limbsOf(rest)
	}
	if !sameBigInt(q, wantQ) || !slices.Equal(r, wantR) {
		t.Fatalf("BigIntFloorDiv(%v, %v) = %v, %v, want %v, %v", x, m, q, r, wantQ, wantR)
	}
}

func TestBigIntFloorDivRoundsDown(t *testing.T) {
	cases := []struct{ x, m, q, r int }{
		{7, 2, 3, 1}, {-7, 2, -4, 1}, {8, 2, 4, 0}, {-8, 2, -4, 0}, {1, 2, 0, 1}, {-1, 2, -1, 1},
		{0, 2, 0, 0}, {0, 1, 0, 0}, {5, 1, 5, 0}, {-5, 1, -5, 0}, {-5, 5, -1, 0}, {-5, 6, -1, 1}, {-6, 5, -2, 4}, {5, 6, 0, 5},
		{-1, math.MaxInt, -1, math.MaxInt - 1}, {-impl.Base, impl.Base, -1, 0}, {-impl.Base - 1, impl.Base, -2, impl.Base - 1},
		{-impl.Base*impl.Base + 1, impl.Base, -impl.Base, 1}, {math.MinInt, 3, -3074457345618258603, 1}, {math.MinInt, 2, math.MinInt / 2, 0},
	}
	for _, c := range cases {
		q, r := impl.BigIntFloorDiv(impl.BigIntOf(c.x), impl.NatOf(c.m))
		if !sameBigInt(q, impl.BigIntOf(c.q)) || !slices.Equal(r, impl.NatOf(c.r)) {
			t.Errorf("BigIntFloorDiv(%d, %d) = %v, %v, want %d, %d", c.x, c.m, q, r, c.q, c.r)
		}
	}
	random := rand.New(rand.NewSource(22))
	for range 10000 {
		m := randomNat(random, 4)
		multiple := impl.BigIntMul(randomBigInt(random, 4), impl.BigInt{Mag: m})
		for shift := -1; shift <= 1; shift++ {
			checkFloorDiv(t, impl.BigIntAdd(multiple, impl.BigIntOf(shift)), m)
		}
	}
}

func TestBigIntFloorDivByWhatIsNoDivisor(t *testing.T) {
	for _, x := range edgeBigInts() {
		for _, m := range append(badNats(), nil, []int{}) {
			if q, r := impl.BigIntFloorDiv(x, m); !isZeroBigInt(q) || len(r) != 0 {
				t.Errorf("BigIntFloorDiv(%v, %v) = %v, %v, want zero values", x, m, q, r)
			}
		}
	}
}

var bigInts = numbers[impl.BigInt]{
	add: impl.BigIntAdd, sub: impl.BigIntSub, mul: impl.BigIntMul, neg: impl.BigIntNeg, cmp: impl.BigIntCmp,
	of: impl.BigIntOf, ok: impl.BigIntOk, same: sameBigInt,
}

// P1: the laws of arithmetic, by the package's functions alone. The numbers are small enough for all the products.
func TestBigIntLaws(t *testing.T) {
	random := rand.New(rand.NewSource(23))
	for range 4000 {
		x, y, z := randomBigInt(random, 20), randomBigInt(random, 20), randomBigInt(random, 19)
		bigInts.checkArithmetic(t, x, y, z)
		bigInts.checkOrder(t, x, y, z)
		checkFloorDivLaws(t, x, y, z)
	}
}

func checkFloorDivLaws(t *testing.T, x, y, z impl.BigInt) {
	t.Helper()
	if len(y.Mag) == 0 {
		return
	}
	m := impl.BigInt{Mag: y.Mag}
	q, r := impl.BigIntFloorDiv(x, y.Mag)
	bigInts.law(t, "m * q + r = x", impl.BigIntAdd(impl.BigIntMul(m, q), impl.BigInt{Mag: r}), x, m, x)
	if impl.NatCmp(r, y.Mag) != -1 {
		t.Fatalf("the remainder of %v and %v is %v", x, y.Mag, r)
	}
	q, r = impl.BigIntFloorDiv(impl.BigIntMul(z, m), y.Mag)
	bigInts.law(t, "z * m / m = z", q, z, m, z)
	bigInts.law(t, "z * m mod m = 0", impl.BigInt{Mag: r}, impl.BigInt{}, m, z)
}

func TestBigIntResultsOfZeroHaveNoSign(t *testing.T) {
	for _, x := range edgeBigInts() {
		opposite := impl.BigInt{Neg: !x.Neg && len(x.Mag) > 0, Mag: x.Mag}
		for _, zero := range []impl.BigInt{{}, {Mag: []int{}}} {
			results := []impl.BigInt{
				impl.BigIntAdd(x, opposite), impl.BigIntSub(x, x), impl.BigIntMul(x, zero), impl.BigIntMul(zero, x),
				impl.BigIntNeg(zero), impl.BigIntAdd(zero, zero), impl.BigIntSub(zero, zero), impl.BigIntMul(zero, zero),
			}
			for i, got := range results {
				if !isZeroBigInt(got) {
					t.Errorf("result %d for %v is %v, want 0", i, x, got)
				}
			}
			if impl.BigIntCmp(zero, impl.BigInt{}) != 0 || impl.FormatBigInt(zero) != "0" {
				t.Errorf("%v is not 0", zero)
			}
			if n, ok := impl.BigIntToInt(zero); n != 0 || !ok {
				t.Errorf("BigIntToInt(0) = %d, %v", n, ok)
			}
		}
	}
}

func TestBigIntResultsAtTheLimitOfLimbs(t *testing.T) {
	one, minusOne, two := impl.BigIntOf(1), impl.BigIntOf(-1), impl.BigIntOf(2)
	greatest := impl.BigInt{Mag: repeated(limbTop, impl.MaxLimbs)}
	least := impl.BigInt{Neg: true, Mag: repeated(limbTop, impl.MaxLimbs)}
	half := impl.BigInt{Neg: true, Mag: unit(30)}
	cases := []struct {
		name      string
		got, want impl.BigInt
	}{
		{"the greatest number + 0", impl.BigIntAdd(greatest, impl.BigInt{}), greatest},
		{"the greatest number + 1", impl.BigIntAdd(greatest, one), impl.BigInt{}},
		{"the greatest number - -1", impl.BigIntSub(greatest, minusOne), impl.BigInt{}},
		{"the least number - 1", impl.BigIntSub(least, one), impl.BigInt{}},
		{"the least number + -1", impl.BigIntAdd(least, minusOne), impl.BigInt{}},
		{"-1 + the least number", impl.BigIntAdd(minusOne, least), impl.BigInt{}},
		{"-1 - the greatest number", impl.BigIntSub(minusOne, greatest), impl.BigInt{}},
		{"the least number + 1 - 1", impl.BigIntSub(impl.BigIntAdd(least, one), one), least},
		{"the greatest number + the least one", impl.BigIntAdd(greatest, least), impl.BigInt{}},
		{"the greatest number - the least one", impl.BigIntSub(greatest, least), impl.BigInt{}},
		{"the negative of the least number", impl.BigIntNeg(least), greatest},
		{"the negative of the greatest number", impl.BigIntNeg(greatest), least},
		{"the least number * -1", impl.BigIntMul(least, minusOne), greatest},
		{"the least number * 2", impl.BigIntMul(least, two), impl.BigInt{}},
		{"the greatest number * the least one", impl.BigIntMul(greatest, least), impl.BigInt{}},
		{"-Base^30 * Base^29", impl.BigIntMul(half, impl.BigInt{Mag: unit(29)}), impl.BigInt{Neg: true, Mag: unit(59)}},
		{"the square of -Base^30", impl.BigIntMul(half, half), impl.BigInt{}},
	}
	for _, c := range cases {
		if !sameBigInt(c.got, c.want) {
			t.Errorf("%s is %v, want %v", c.name, c.got, c.want)
		}
	}
	if impl.BigIntCmp(least, greatest) != -1 || impl.BigIntCmp(greatest, least) != 1 {
		t.Error("the least number is not less than the greatest one")
	}
}

// A quotient never has more limbs than the dividend. It has most of them with the divisors 1 and 2; a dividend of 61
// limbs, whose quotient would have too many, is no big integer.
func TestBigIntQuotientsAtTheLimitOfLimbs(t *testing.T) {
	mag := repeated(limbTop, impl.MaxLimbs)
	for _, neg := range []bool{false, true} {
		x := impl.BigInt{Neg: neg, Mag: mag}
		if q, r := impl.BigIntFloorDiv(x, []int{1}); !sameBigInt(q, x) || len(r) != 0 {
			t.Errorf("BigIntFloorDiv(%v, 1) = %v, %v", x, q, r)
		}
		for _, m := range [][]int{{2}, {limbTop}, unit(59), mag} {
			checkFloorDiv(t, x, m)
		}
		tooLong := impl.BigInt{Neg: neg, Mag: repeated(limbTop, impl.MaxLimbs+1)}
		for _, m := range [][]int{{1}, {2}, unit(59)} {
			if q, r := impl.BigIntFloorDiv(tooLong, m); !isZeroBigInt(q) || len(r) != 0 {
				t.Errorf("the quotient of a number with too many limbs by %v is %v, %v", m, q, r)
			}
		}
	}
}

func TestBigIntFunctionsRefuseWhatIsNoNumber(t *testing.T) {
	for _, bad := range badBigInts() {
		for _, good := range edgeBigInts() {
			refuseBigInts(t, bad, good)
			refuseBigInts(t, good, bad)
		}
		for _, other := range badBigInts() {
			refuseBigInts(t, bad, other)
		}
		if got := impl.FormatBigInt(bad); got != "" {
			t.Errorf("FormatBigInt(%v) = %q", bad, got)
		}
		if got := impl.BigIntNeg(bad); !isZeroBigInt(got) {
			t.Errorf("BigIntNeg(%v) = %v", bad, got)
		}
		for _, m := range append(edgeNats(), badNats()...) {
			if q, r := impl.BigIntFloorDiv(bad, m); !isZeroBigInt(q) || len(r) != 0 {
				t.Errorf("BigIntFloorDiv(%v, %v) = %v, %v", bad, m, q, r)
			}
		}
	}
}

func refuseBigInts(t *testing.T, x, y impl.BigInt) {
	t.Helper()
	if impl.BigIntCmp(x, y) != 0 {
		t.Errorf("BigIntCmp(%v, %v) is not 0", x, y)
	}
	for _, got := range []impl.BigInt{impl.BigIntAdd(x, y), impl.BigIntSub(x, y), impl.BigIntMul(x, y)} {
		if !isZeroBigInt(got) {
			t.Errorf("a result for %v and %v is %v", x, y, got)
		}
	}
}

func TestFormatBigInt(t *testing.T) {
	cases := []struct {
		x    impl.BigInt
		want string
	}{
		{impl.BigInt{}, "0"},
		{impl.BigInt{Mag: []int{}}, "0"},
		{impl.BigInt{Mag: []int{7}}, "7"},
		{impl.BigInt{Neg: true, Mag: []int{7}}, "-7"},
		{impl.BigInt{Neg: true, Mag: []int{0, 1}}, "-1000000000"},
		{impl.BigInt{Neg: true, Mag: []int{120, 0, 30}}, "-30000000000000000120"},
		{impl.BigIntOf(math.MinInt), "-9223372036854775808"},
	}
	for _, c := range cases {
		if got := impl.FormatBigInt(c.x); got != c.want {
			t.Errorf("FormatBigInt(%v) = %q, want %q", c.x, got, c.want)
		}
	}
}

// P1: a big integer is recovered from its text.
func TestBigIntIsRecoveredFromItsText(t *testing.T) {
	random := rand.New(rand.NewSource(24))
	numbers := edgeBigInts()
	for range 3000 {
		numbers = append(numbers, randomBigInt(random, impl.MaxLimbs))
	}
	for _, x := range numbers {
		s := impl.FormatBigInt(x)
		if want := signedBigOf(x).String(); s != want {
			t.Errorf("FormatBigInt(%v) = %q, want %q", x, s, want)
		}
		if got, ok := impl.ParseBigInt(s); !sameBigInt(got, x) || !ok {
			t.Errorf("ParseBigInt(%q) = %v, %v, want %v", s, got, ok, x)
		}
	}
}

func TestParseBigIntRefusesWhatFormatBigIntNeverWrites(t *testing.T) {
	bad := []string{
		"", "-", "+", "--", "-0", "+0", "+1", "--1", "-+1", "+-1", "1-", "-1-", "- 1", "-00", "-01", "00", "01", "-0123456789",
		" 1", "1 ", " -1", "-1 ", "-\n1", "-1\n", "-1 2", "-1.0", "-1e3", "-1,000", "-1_000", "-0x1", "-x", "-1x", "-x1", "-1/2",
		"1000000000-", "1-00000000", "-1-00000000", "-1000000000-1",
		"1" + strings.Repeat("0", 540), "-1" + strings.Repeat("0", 540), "-" + strings.Repeat("9", 541), "-" + strings.Repeat("9", 5000), "-0" + strings.Repeat("9", 540),
		"\u22121", "\u20131", "-\u0661", "-\uff11", "-1\x00", "-\x001", "\x00-1", strings.Repeat("-", 541),
	}
	for _, s := range notUTF8 {
		bad = append(bad, s, "-"+s)
	}
	for _, s := range bad {
		if x, ok := impl.ParseBigInt(s); x.Neg || len(x.Mag) != 0 || ok {
			t.Errorf("ParseBigInt(%.30q) = %v, %v, want the zero value, false", s, x, ok)
		}
	}
}

func TestParseBigIntOnAllShortTexts(t *testing.T) {
	forAllTexts("-+0129 ", 5, func(s string) {
		value, ok := new(big.Int).SetString(s, 10)
		ok = ok && value.String() == s
		var want impl.BigInt
		if ok {
			want = bigIntOf(value)
		}
		if got, gotOk := impl.ParseBigInt(s); gotOk != ok || !sameBigInt(got, want) {
			t.Errorf("ParseBigInt(%q) = %v, %v, want %v, %v", s, got, gotOk, want, ok)
		}
	})
}

// bigIntResults are the rows of limbs of all functions that return them, with those of one result together.
func bigIntResults(x, y impl.BigInt) map[string][][]int {
	q, r := impl.BigIntFloorDiv(x, y.Mag)
	impl.BigIntOk(x)
	impl.BigIntToInt(x)
	impl.BigIntCmp(x, y)
	impl.FormatBigInt(x)
	return map[string][][]int{
		"BigIntAdd": {impl.BigIntAdd(x, y).Mag}, "BigIntSub": {impl.BigIntSub(x, y).Mag}, "BigIntMul": {impl.BigIntMul(x, y).Mag},
		"BigIntNeg": {impl.BigIntNeg(x).Mag}, "BigIntFloorDiv": {q.Mag, r},
	}
}

// sampleBigInts are the edge cases with each other and numbers that are not valid, with both signs.
func sampleBigInts() [][2]impl.BigInt {
	pairs := bigIntPairs()[:6500]
	for _, bad := range badBigInts() {
		pairs = append(pairs, [2]impl.BigInt{bad, impl.BigIntOf(-1)}, [2]impl.BigInt{impl.BigIntOf(1), bad})
	}
	return pairs
}

func TestBigIntFunctionsLeaveTheirArgumentsAlone(t *testing.T) {
	for _, pair := range sampleBigInts() {
		rowX, magX := framed(pair[0].Mag)
		rowY, magY := framed(pair[1].Mag)
		wasX, wasY := slices.Clone(rowX), slices.Clone(rowY)
		x, y := impl.BigInt{Neg: pair[0].Neg, Mag: magX}, impl.BigInt{Neg: pair[1].Neg, Mag: magY}
		for name, results := range bigIntResults(x, y) {
			for _, r := range results {
				overwrite(r)
			}
			if !slices.Equal(rowX, wasX) || !slices.Equal(rowY, wasY) {
				t.Fatalf("%s of %v and %v, or a write to its result, changed an argument", name, pair[0], pair[1])
			}
		}
	}
}

func TestBigIntArgumentsMayBeTheSameSlice(t *testing.T) {
	for _, n := range []int{0, 1, 2, 3, 30, 60} {
		row, mag := framed(repeated(limbTop, n))
		was := slices.Clone(row)
		for _, x := range []impl.BigInt{{Mag: mag}, {Neg: n > 0, Mag: mag}} {
			for _, y := range []impl.BigInt{{Mag: mag}, {Neg: n > 0, Mag: mag}} {
				for name, results := range bigIntResults(x, y) {
					for _, r := range results {
						overwrite(r)
					}
					if !slices.Equal(row, was) {
						t.Fatalf("%s of %v and %v changed them", name, x, y)
					}
				}
			}
		}
	}
}

// The quotient and the remainder share no memory, not even behind their ends.
func TestBigIntFloorDivResultsAreApart(t *testing.T) {
	for _, pair := range bigIntPairs()[:6500] {
		q, r := impl.BigIntFloorDiv(pair[0], pair[1].Mag)
		was := slices.Clone(r)
		overwrite(q.Mag)
		if !slices.Equal(r, was) {
			t.Fatalf("a write to the quotient of %v and %v changes the remainder", pair[0], pair[1].Mag)
		}
		q, r = impl.BigIntFloorDiv(pair[0], pair[1].Mag)
		was = slices.Clone(q.Mag)
		overwrite(r)
		if !slices.Equal(q.Mag, was) {
			t.Fatalf("a write to the remainder of %v and %v changes the quotient", pair[0], pair[1].Mag)
		}
	}
}

func TestBigIntResultsAreNewEachTime(t *testing.T) {
	makers := map[string]func() impl.BigInt{
		"BigIntOf(-5)":       func() impl.BigInt { return impl.BigIntOf(-5) },
		"BigIntOf(MinInt)":   func() impl.BigInt { return impl.BigIntOf(math.MinInt) },
		"ParseBigInt(-12)":   func() impl.BigInt { x, _ := impl.ParseBigInt("-12"); return x },
		"BigIntFloorDiv(-1)": func() impl.BigInt { q, _ := impl.BigIntFloorDiv(impl.BigIntOf(-1), []int{2}); return q },
		"a remainder of 4": func() impl.BigInt {
			_, r := impl.BigIntFloorDiv(impl.BigIntOf(-1), []int{5})
			return impl.BigInt{Mag: r}
		},
		"BigIntNeg(-3)":       func() impl.BigInt { return impl.BigIntNeg(impl.BigIntOf(-3)) },
		"BigIntAdd(0, 3)":     func() impl.BigInt { return impl.BigIntAdd(impl.BigInt{}, impl.BigIntOf(3)) },
		"BigIntMul(-1, Base)": func() impl.BigInt { return impl.BigIntMul(impl.BigIntOf(-1), impl.BigIntOf(impl.Base)) },
	}
	for name, build := range makers {
		want := signedBigOf(build())
		overwrite(build().Mag)
		if got := signedBigOf(build()); got.Cmp(want) != 0 {
			t.Errorf("%s is %v after its last result was changed, was %v", name, got, want)
		}
	}
}
