package tests

import (
	"math"
	"math/big"
	"math/rand"
	"slices"
	"strings"
	"testing"

	"loop.example/g00811/impl"
)

const limbTop = impl.Base - 1

// bigOf is the value of the limbs, counted without the package.
func bigOf(a []int) *big.Int {
	n, base := new(big.Int), big.NewInt(impl.Base)
	for i := len(a) - 1; i >= 0; i-- {
		n.Add(n.Mul(n, base), big.NewInt(int64(a[i])))
	}
	return n
}

// limbsOf are the limbs of n that the document asks for: none if n is negative or needs more than MaxLimbs.
func limbsOf(n *big.Int) []int {
	var limbs []int
	if n.Sign() < 0 {
		return nil
	}
	rest, limb, base := new(big.Int).Set(n), new(big.Int), big.NewInt(impl.Base)
	for rest.Sign() > 0 {
		rest.DivMod(rest, base, limb)
		limbs = append(limbs, int(limb.Int64()))
	}
	if len(limbs) > impl.MaxLimbs {
		return nil
	}
	return limbs
}

func repeated(limb int, n int) []int {
	return slices.Repeat([]int{limb}, n)
}

// unit is Base to the power of k.
func unit(k int) []int {
	return append(make([]int, k), 1)
}

// badNats are no natural numbers: a zero limb at the end, a limb out of range at every place, and too many limbs.
func badNats() [][]int {
	return [][]int{
		{0}, {0, 0}, {1, 0}, {5, 7, 0}, append(repeated(1, 59), 0), append(repeated(1, 60), 0),
		{-1}, {-1, 1}, {1, -1}, {1, -1, 1}, {1, 2, -1}, {math.MinInt}, {0, math.MinInt, 1}, {math.MinInt, 1},
		{impl.Base}, {impl.Base, 1}, {1, impl.Base}, {1, impl.Base, 1}, {1, 2, impl.Base + 1}, {math.MaxInt}, {math.MaxInt, 1}, {1, math.MaxInt},
		repeated(1, 61), unit(60), repeated(limbTop, 61), repeated(1, 200), make([]int, 60), make([]int, 61),
	}
}

// edgeNats are 0 in both forms, limbs of 0 and of Base - 1, and numbers of up to MaxLimbs limbs.
func edgeNats() [][]int {
	l := [][]int{
		nil, {}, {1}, {2}, {9}, {10}, {limbTop}, {limbTop - 1}, {impl.Base / 2}, {impl.Base/2 - 1},
		{0, 1}, {1, 1}, {limbTop, 1}, {0, limbTop}, {limbTop, limbTop}, {0, impl.Base / 2}, {limbTop, impl.Base/2 - 1},
		{0, 0, 1}, {1, 0, 1}, {0, limbTop, 1}, {limbTop, 0, limbTop}, {limbTop, limbTop, limbTop}, {0, 0, limbTop},
		{854775807, 223372036, 9}, {854775808, 223372036, 9}, {854775806, 223372036, 9}, {854775807, 223372036, 10}, {0, 0, 10},
	}
	for _, n := range []int{4, 29, 30, 31, 59, 60} {
		l = append(l, unit(n-1), repeated(1, n), repeated(limbTop, n), append(make([]int, n-1), limbTop), append(repeated(limbTop, n-1), 1))
	}
	return l
}

// randomNat has up to most limbs, many of them 0 or Base - 1.
func randomNat(random *rand.Rand, most int) []int {
	a := make([]int, random.Intn(most+1))
	for i := range a {
		switch random.Intn(6) {
		case 0:
			a[i] = 0
		case 1:
			a[i] = limbTop
		case 2:
			a[i] = random.Intn(3)
		case 3:
			a[i] = limbTop - random.Intn(3)
		default:
			a[i] = random.Intn(impl.Base)
		}
	}
	for len(a) > 0 && a[len(a)-1] == 0 {
		a = a[:len(a)-1]
	}
	return a
}

// natPairs are all pairs of edge cases and random pairs of every size.
func natPairs() [][2][]int {
	var pairs [][2][]int
	for _, a := range edgeNats() {
		for _, b := range edgeNats() {
			pairs = append(pairs, [2][]int{a, b})
		}
	}
	random := rand.New(rand.NewSource(10))
	for range 6000 {
		a, b := randomNat(random, 1+random.Intn(impl.MaxLimbs)), randomNat(random, 1+random.Intn(impl.MaxLimbs))
		pairs = append(pairs, [2][]int{a, b}, [2][]int{a, a})
	}
	return pairs
}

func TestNatLimits(t *testing.T) {
	if impl.Base != 1000000000 || impl.MaxLimbs != 60 {
		t.Errorf("Base is %d and MaxLimbs %d", impl.Base, impl.MaxLimbs)
	}
}

func TestNatOk(t *testing.T) {
	for _, a := range edgeNats() {
		if !impl.NatOk(a) {
			t.Errorf("NatOk(%v) is false", a)
		}
	}
	for _, a := range badNats() {
		if impl.NatOk(a) {
			t.Errorf("NatOk(%v) is true", a)
		}
	}
}

func TestNatOf(t *testing.T) {
	for _, n := range sampleInts() {
		got := impl.NatOf(n)
		if want := limbsOf(big.NewInt(int64(n))); !slices.Equal(got, want) {
			t.Errorf("NatOf(%d) = %v, want %v", n, got, want)
		}
		back, ok := impl.NatToInt(got)
		if n >= 0 && (back != n || !ok) {
			t.Errorf("NatToInt(NatOf(%d)) = %d, %v", n, back, ok)
		}
	}
}

func TestNatToInt(t *testing.T) {
	for _, a := range edgeNats() {
		want := 0
		value := bigOf(a)
		if value.IsInt64() {
			want = int(value.Int64())
		}
		if got, ok := impl.NatToInt(a); got != want || ok != value.IsInt64() {
			t.Errorf("NatToInt(%v) = %d, %v, want %d, %v", a, got, ok, want, value.IsInt64())
		}
	}
	random := rand.New(rand.NewSource(11))
	for range 20000 {
		a := randomNat(random, 3)
		value := bigOf(a)
		got, ok := impl.NatToInt(a)
		if ok != value.IsInt64() || ok && int64(got) != value.Int64() || !ok && got != 0 {
			t.Errorf("NatToInt(%v) = %d, %v", a, got, ok)
		}
	}
	if got, ok := impl.NatToInt([]int{854775807, 223372036, 9}); got != math.MaxInt || !ok {
		t.Errorf("the greatest int is read as %d, %v", got, ok)
	}
	for _, a := range append(badNats(), []int{854775808, 223372036, 9}) {
		if got, ok := impl.NatToInt(a); got != 0 || ok {
			t.Errorf("NatToInt(%v) = %d, %v, want 0, false", a, got, ok)
		}
	}
}

// P15: every operation gives what big.Int gives, or nil if that has too many limbs.
func TestNatOperationsGiveTheRightNumbers(t *testing.T) {
	for _, pair := range natPairs() {
		a, b := pair[0], pair[1]
		x, y := bigOf(a), bigOf(b)
		if got, want := impl.NatCmp(a, b), x.Cmp(y); got != want {
			t.Fatalf("NatCmp(%v, %v) = %d, want %d", a, b, got, want)
		}
		if got, want := impl.NatAdd(a, b), limbsOf(new(big.Int).Add(x, y)); !slices.Equal(got, want) {
			t.Fatalf("NatAdd(%v, %v) = %v, want %v", a, b, got, want)
		}
		if got, want := impl.NatSub(a, b), limbsOf(new(big.Int).Sub(x, y)); !slices.Equal(got, want) {
			t.Fatalf("NatSub(%v, %v) = %v, want %v", a, b, got, want)
		}
		if got, want := impl.NatMul(a, b), limbsOf(new(big.Int).Mul(x, y)); !slices.Equal(got, want) {
			t.Fatalf("NatMul(%v, %v) = %v, want %v", a, b, got, want)
		}
		if got, want := impl.NatGcd(a, b), limbsOf(new(big.Int).GCD(nil, nil, x, y)); !slices.Equal(got, want) {
			t.Fatalf("NatGcd(%v, %v) = %v, want %v", a, b, got, want)
		}
		checkDivision(t, a, b)
	}
}

func checkDivision(t *testing.T, a []int, b []int) {
	t.Helper()
	q, r := impl.NatDiv(a, b)
	var wantQ, wantR []int
	if len(b) > 0 {
		x, y := new(big.Int).QuoRem(bigOf(a), bigOf(b), new(big.Int))
		wantQ, wantR = limbsOf(x), limbsOf(y)
	}
	if !slices.Equal(q, wantQ) || !slices.Equal(r, wantR) {
		t.Fatalf("NatDiv(%v, %v) = %v, %v, want %v, %v", a, b, q, r, wantQ, wantR)
	}
}

// A quotient of which the first limbs promise too much, by 1 and by 2, and dividends just below a multiple.
func TestNatDivCorrectsItsGuess(t *testing.T) {
	random := rand.New(rand.NewSource(12))
	for range 30000 {
		b := randomNat(random, 4)
		q := randomNat(random, 4)
		multiple := impl.NatMul(b, q)
		checkDivision(t, multiple, b)
		checkDivision(t, impl.NatAdd(multiple, impl.NatSub(b, []int{1})), b)
		checkDivision(t, impl.NatSub(multiple, []int{1}), b)
		checkDivision(t, randomNat(random, 6), randomNat(random, 3))
	}
}

// Numbers with a known common factor, and successive Fibonacci numbers, for which Euclid's algorithm takes longest.
func TestNatGcdOfRelatedNumbers(t *testing.T) {
	random := rand.New(rand.NewSource(13))
	for range 4000 {
		size := 1 + random.Intn(impl.MaxLimbs-1)
		factor := randomNat(random, size)
		a, b := impl.NatMul(factor, randomNat(random, impl.MaxLimbs-size)), impl.NatMul(factor, randomNat(random, impl.MaxLimbs-size))
		want := limbsOf(new(big.Int).GCD(nil, nil, bigOf(a), bigOf(b)))
		if got := impl.NatGcd(a, b); !slices.Equal(got, want) {
			t.Fatalf("NatGcd(%v, %v) = %v, want %v", a, b, got, want)
		}
	}
	a, b := []int{1}, []int{1}
	for next := impl.NatAdd(a, b); len(next) > 0; next = impl.NatAdd(a, b) {
		a, b = b, next
		if got := impl.NatGcd(a, b); !slices.Equal(got, []int{1}) {
			t.Fatalf("NatGcd(%v, %v) = %v, want 1", a, b, got)
		}
		if got := impl.NatGcd(impl.NatMul(b, []int{0, 6}), impl.NatMul(a, []int{0, 6})); len(b) < 59 && !slices.Equal(got, []int{0, 6}) {
			t.Fatalf("the greatest common divisor of multiples of %v and %v is %v", a, b, got)
		}
	}
	if len(b) != impl.MaxLimbs {
		t.Errorf("the last Fibonacci number has %d limbs", len(b))
	}
}

// P1: the laws of arithmetic, by the package's functions alone. The numbers are small enough for all the products.
func TestNatLaws(t *testing.T) {
	random := rand.New(rand.NewSource(14))
	add, sub, mul, gcd := impl.NatAdd, impl.NatSub, impl.NatMul, impl.NatGcd
	same := func(law string, l, r []int, of ...[]int) {
		t.Helper()
		if !slices.Equal(l, r) {
			t.Fatalf("%s fails for %v: %v and %v", law, of, l, r)
		}
	}
	one := impl.NatOf(1)
	for range 3000 {
		a, b, c := randomNat(random, 20), randomNat(random, 20), randomNat(random, 19)
		same("a + b = b + a", add(a, b), add(b, a), a, b)
		same("a * b = b * a", mul(a, b), mul(b, a), a, b)
		same("(a + b) + c = a + (b + c)", add(add(a, b), c), add(a, add(b, c)), a, b, c)
		same("(a * b) * c = a * (b * c)", mul(mul(a, b), c), mul(a, mul(b, c)), a, b, c)
		same("a * (b + c) = a * b + a * c", mul(a, add(b, c)), add(mul(a, b), mul(a, c)), a, b, c)
		same("a + b - b = a", sub(add(a, b), b), a, a, b)
		same("a + 0 = a", add(a, nil), a, a)
		same("a * 1 = a", mul(a, one), a, a)
		same("a * 0 = 0", mul(a, nil), nil, a)
		same("a - a = 0", sub(a, a), nil, a)
		same("gcd(a, b) = gcd(b, a)", gcd(a, b), gcd(b, a), a, b)
		same("gcd(gcd(a, b), c) = gcd(a, gcd(b, c))", gcd(gcd(a, b), c), gcd(a, gcd(b, c)), a, b, c)
		same("gcd(a * c, b * c) = gcd(a, b) * c", gcd(mul(a, c), mul(b, c)), mul(gcd(a, b), c), a, b, c)
		same("gcd(a, 0) = a", gcd(a, nil), a, a)
		same("gcd(0, a) = a", gcd(nil, a), a, a)
		same("gcd(a, a) = a", gcd(a, a), a, a)
		same("gcd(a, 1) = 1", gcd(a, one), one, a)
		checkOrder(t, a, b, c)
		if len(b) == 0 {
			continue
		}
		q, r := impl.NatDiv(a, b)
		same("q * b + r = a", add(mul(q, b), r), a, a, b)
		if impl.NatCmp(r, b) != -1 {
			t.Fatalf("the remainder of %v and %v is %v", a, b, r)
		}
		q, r = impl.NatDiv(mul(a, b), b)
		same("a * b / b = a", q, a, a, b)
		same("a * b mod b = 0", r, nil, a, b)
		_, r = impl.NatDiv(b, gcd(a, b))
		same("b mod gcd(a, b) = 0", r, nil, a, b)
	}
}

func checkOrder(t *testing.T, a, b, c []int) {
	t.Helper()
	order := impl.NatCmp(a, b)
	if order != -impl.NatCmp(b, a) || (order == 0) != slices.Equal(a, b) || impl.NatCmp(a, a) != 0 {
		t.Fatalf("the order of %v and %v is not one", a, b)
	}
	if got := impl.NatCmp(impl.NatAdd(a, c), impl.NatAdd(b, c)); got != order {
		t.Fatalf("adding %v to %v and %v changes their order", c, a, b)
	}
	if len(c) > 0 && impl.NatCmp(impl.NatMul(a, c), impl.NatMul(b, c)) != order {
		t.Fatalf("multiplying %v and %v by %v changes their order", a, b, c)
	}
	if (order < 0) != (len(impl.NatSub(a, b)) == 0 && len(impl.NatSub(b, a)) > 0) {
		t.Fatalf("the differences of %v and %v do not agree with their order", a, b)
	}
	if impl.NatCmp(a, b) <= 0 && impl.NatCmp(b, c) <= 0 && impl.NatCmp(a, c) > 0 {
		t.Fatalf("the order of %v, %v and %v is not transitive", a, b, c)
	}
}

func TestNatResultsAtTheLimitOfLimbs(t *testing.T) {
	greatest := repeated(limbTop, impl.MaxLimbs)
	one := []int{1}
	cases := []struct {
		name      string
		got, want []int
	}{
		{"the greatest number + 0", impl.NatAdd(greatest, nil), greatest},
		{"the greatest number + 1", impl.NatAdd(greatest, one), nil},
		{"1 + the greatest number", impl.NatAdd(one, greatest), nil},
		{"twice the greatest number", impl.NatAdd(greatest, greatest), nil},
		{"the greatest number - 1, + 1", impl.NatAdd(impl.NatSub(greatest, one), one), greatest},
		{"the greatest number * 1", impl.NatMul(greatest, one), greatest},
		{"the greatest number * 2", impl.NatMul(greatest, []int{2}), nil},
		{"the greatest number * 0", impl.NatMul(greatest, nil), nil},
		{"the square of the greatest number", impl.NatMul(greatest, greatest), nil},
		{"Base^29 * Base^30", impl.NatMul(unit(29), unit(30)), unit(59)},
		{"Base^30 * Base^30", impl.NatMul(unit(30), unit(30)), nil},
		{"Base^59 * Base", impl.NatMul(unit(59), unit(1)), nil},
		{"Base^59 * (Base - 1)", impl.NatMul(unit(59), []int{limbTop}), append(make([]int, 59), limbTop)},
		{"a product of 61 limbs with little in the last one", impl.NatMul(append(make([]int, 59), limbTop), []int{2}), nil},
		{"a product of 60 limbs of factors of 31 and 30", impl.NatMul(append(make([]int, 30), 2), append(make([]int, 29), 499999999)), append(make([]int, 59), 999999998)},
		{"the greatest number with itself", impl.NatGcd(greatest, greatest), greatest},
		{"a number with 0", impl.NatGcd(nil, unit(59)), unit(59)},
	}
	for _, c := range cases {
		if !slices.Equal(c.got, c.want) {
			t.Errorf("%s is %v, want %v", c.name, c.got, c.want)
		}
	}
	if q, r := impl.NatDiv(greatest, one); !slices.Equal(q, greatest) || len(r) != 0 {
		t.Errorf("the greatest number by 1 is %v, %v", q, r)
	}
	if q, r := impl.NatDiv(one, greatest); len(q) != 0 || !slices.Equal(r, one) {
		t.Errorf("1 by the greatest number is %v, %v", q, r)
	}
}

func TestNatFunctionsRefuseWhatIsNoNumber(t *testing.T) {
	for _, bad := range badNats() {
		for _, good := range edgeNats() {
			refuseNats(t, bad, good)
			refuseNats(t, good, bad)
		}
		refuseNats(t, bad, bad)
		for _, other := range badNats() {
			refuseNats(t, bad, other)
		}
		if got := impl.FormatNat(bad); got != "" {
			t.Errorf("FormatNat(%v) = %q", bad, got)
		}
	}
}

func refuseNats(t *testing.T, a []int, b []int) {
	t.Helper()
	if impl.NatCmp(a, b) != 0 {
		t.Errorf("NatCmp(%v, %v) is not 0", a, b)
	}
	q, r := impl.NatDiv(a, b)
	for _, got := range [][]int{impl.NatAdd(a, b), impl.NatSub(a, b), impl.NatMul(a, b), impl.NatGcd(a, b), q, r} {
		if len(got) != 0 {
			t.Errorf("a result for %v and %v is %v", a, b, got)
		}
	}
}

func TestNatDivByZero(t *testing.T) {
	for _, a := range edgeNats() {
		for _, zero := range [][]int{nil, {}} {
			if q, r := impl.NatDiv(a, zero); q != nil || r != nil {
				t.Errorf("NatDiv(%v, 0) = %v, %v", a, q, r)
			}
		}
	}
}

func TestFormatNat(t *testing.T) {
	cases := []struct {
		a    []int
		want string
	}{
		{nil, "0"},
		{[]int{}, "0"},
		{[]int{7}, "7"},
		{[]int{limbTop}, "999999999"},
		{[]int{0, 1}, "1000000000"},
		{[]int{7, 1}, "1000000007"},
		{[]int{120, 0, 30}, "30000000000000000120"},
		{[]int{limbTop, 0, 1}, "1000000000999999999"},
	}
	for _, c := range cases {
		if got := impl.FormatNat(c.a); got != c.want {
			t.Errorf("FormatNat(%v) = %q, want %q", c.a, got, c.want)
		}
	}
}

// P1: a natural number is recovered from its text.
func TestNatIsRecoveredFromItsText(t *testing.T) {
	random := rand.New(rand.NewSource(15))
	numbers := edgeNats()
	for range 3000 {
		numbers = append(numbers, randomNat(random, impl.MaxLimbs))
	}
	for _, a := range numbers {
		s := impl.FormatNat(a)
		if want := bigOf(a).String(); s != want {
			t.Errorf("FormatNat(%v) = %q, want %q", a, s, want)
		}
		if got, ok := impl.ParseNat(s); !slices.Equal(got, a) || !ok {
			t.Errorf("ParseNat(%q) = %v, %v, want %v", s, got, ok, a)
		}
	}
}

func TestParseNatRefusesWhatFormatNatNeverWrites(t *testing.T) {
	bad := []string{
		"", "00", "000000000", "0000000000", "01", "007", "0123456789", "01234567890", strings.Repeat("0", 540), "0" + strings.Repeat("9", 540),
		"-1", "-0", "-", "+1", "+0", " 1", "1 ", "\n1", "1\n", "1 2", "1.0", "1e3", "1,000", "1_000", "0x1", "x", "1x", "x1",
		"1000000000x", "x1000000000", "1-00000000", "1000000000-1", "1+00000001", "/", ":", "1/2",
		"1" + strings.Repeat("0", 540), strings.Repeat("9", 541), strings.Repeat("9", 5000), strings.Repeat("9", 539) + "x",
		"\u0661", "\uff11", "1\u0661", "1\x00", "\x001", "12345678\u00e9",
	}
	for _, s := range append(bad, notUTF8...) {
		if a, ok := impl.ParseNat(s); a != nil || ok {
			t.Errorf("ParseNat(%.30q) = %v, %v, want nil, false", s, a, ok)
		}
	}
}

func TestParseNatOnAllShortTexts(t *testing.T) {
	forAllTexts("-+0129 ", 4, func(s string) {
		value, ok := new(big.Int).SetString(s, 10)
		ok = ok && value.Sign() >= 0 && value.String() == s
		var want []int
		if ok {
			want = limbsOf(value)
		}
		if got, gotOk := impl.ParseNat(s); gotOk != ok || !slices.Equal(got, want) {
			t.Errorf("ParseNat(%q) = %v, %v, want %v, %v", s, got, gotOk, want, ok)
		}
	})
}

// framed lays a between other limbs, so that a write before it or into its spare capacity is seen.
func framed(a []int) (row []int, inside []int) {
	row = append([]int{-7, -7, -7}, a...)
	row = append(row, repeated(-7, 70)...)
	return row, row[3 : 3+len(a)]
}

func TestNatFunctionsLeaveTheirArgumentsAlone(t *testing.T) {
	for _, pair := range samplePairs() {
		rowA, a := framed(pair[0])
		rowB, b := framed(pair[1])
		wasA, wasB := slices.Clone(rowA), slices.Clone(rowB)
		for name, results := range natResults(a, b) {
			for _, r := range results {
				overwrite(r)
			}
			if !slices.Equal(rowA, wasA) || !slices.Equal(rowB, wasB) {
				t.Fatalf("%s of %v and %v, or a write to its result, changed an argument", name, pair[0], pair[1])
			}
		}
	}
}

func TestNatArgumentsMayBeTheSameSlice(t *testing.T) {
	for _, n := range []int{0, 1, 2, 3, 30} {
		row, a := framed(repeated(limbTop, n))
		was := slices.Clone(row)
		for name, results := range natResults(a, a) {
			for _, r := range results {
				overwrite(r)
			}
			if !slices.Equal(row, was) {
				t.Fatalf("%s of a number and itself changed it", name)
			}
		}
	}
}

// samplePairs are the edge cases and some of the random pairs, valid and not.
func samplePairs() [][2][]int {
	pairs := natPairs()[:1600]
	for _, bad := range badNats() {
		pairs = append(pairs, [2][]int{bad, {1}}, [2][]int{{1}, bad})
	}
	return pairs
}

// natResults are the results of all functions that return numbers, with the numbers of one result together.
func natResults(a []int, b []int) map[string][][]int {
	q, r := impl.NatDiv(a, b)
	impl.NatOk(a)
	impl.NatToInt(a)
	impl.NatCmp(a, b)
	impl.FormatNat(a)
	return map[string][][]int{
		"NatAdd": {impl.NatAdd(a, b)}, "NatSub": {impl.NatSub(a, b)}, "NatMul": {impl.NatMul(a, b)}, "NatGcd": {impl.NatGcd(a, b)}, "NatDiv": {q, r},
	}
}

// overwrite fills a slice and its spare capacity.
func overwrite(a []int) {
	a = a[:cap(a)]
	for i := range a {
		a[i] = -1
	}
}

// The quotient and the remainder share no memory, not even behind their ends.
func TestNatDivResultsAreApart(t *testing.T) {
	for _, pair := range natPairs()[:1600] {
		q, r := impl.NatDiv(pair[0], pair[1])
		was := slices.Clone(r)
		overwrite(q)
		if !slices.Equal(r, was) {
			t.Fatalf("a write to the quotient of %v and %v changes the remainder", pair[0], pair[1])
		}
		q, r = impl.NatDiv(pair[0], pair[1])
		was = slices.Clone(q)
		overwrite(r)
		if !slices.Equal(q, was) {
			t.Fatalf("a write to the remainder of %v and %v changes the quotient", pair[0], pair[1])
		}
	}
}

func TestNatResultsAreNewEachTime(t *testing.T) {
	make3 := func() []int {
		a, _ := impl.ParseNat("3000000002000000001")
		return a
	}
	overwrite(make3())
	overwrite(impl.NatOf(3000000002))
	overwrite(impl.NatGcd([]int{6}, []int{4}))
	if got := make3(); !slices.Equal(got, []int{1, 2, 3}) {
		t.Errorf("ParseNat = %v after its last result was changed", got)
	}
	if got := impl.NatOf(3000000002); !slices.Equal(got, []int{2, 3}) {
		t.Errorf("NatOf = %v after its last result was changed", got)
	}
	if got := impl.NatGcd([]int{6}, []int{4}); !slices.Equal(got, []int{2}) {
		t.Errorf("NatGcd = %v after its last result was changed", got)
	}
}
