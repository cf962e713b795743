package tests

import (
	"math"
	"math/big"
	"math/rand"
	"slices"
	"strconv"
	"strings"
	"testing"

	"loop.example/g00811/impl"
)

// bigPoint is a point counted without the package. A coordinate is nil if it is not a valid fraction.
type bigPoint struct {
	x, y *big.Rat
}

func bigPointOf(p impl.Point) bigPoint {
	return bigPoint{bigRatOf(p.X), bigRatOf(p.Y)}
}

func (p bigPoint) point() impl.Point {
	if p.x == nil || p.y == nil {
		return impl.Point{}
	}
	return impl.Point{X: ratOf(p.x), Y: ratOf(p.y)}
}

// stepwise is the result of one operation as chapter 5 has it: nil if an operand is nil or the result is too long.
func stepwise(operation func(z, a, b *big.Rat) *big.Rat, a, b *big.Rat) *big.Rat {
	if a == nil || b == nil {
		return nil
	}
	result := operation(new(big.Rat), a, b)
	if isZeroRat(ratOf(result)) {
		return nil
	}
	return result
}

func wantedSide(p, q, r bigPoint) int {
	sub, mul := (*big.Rat).Sub, (*big.Rat).Mul
	first := stepwise(mul, stepwise(sub, q.x, p.x), stepwise(sub, r.y, p.y))
	second := stepwise(mul, stepwise(sub, q.y, p.y), stepwise(sub, r.x, p.x))
	if result := stepwise(sub, first, second); result != nil {
		return result.Sign()
	}
	return 0
}

func wantedMiddle(p, q bigPoint) impl.Point {
	add, mul, half := (*big.Rat).Add, (*big.Rat).Mul, big.NewRat(1, 2)
	return bigPoint{stepwise(mul, stepwise(add, p.x, q.x), half), stepwise(mul, stepwise(add, p.y, q.y), half)}.point()
}

func wantedMove(p bigPoint, v impl.Vec) impl.Point {
	add := (*big.Rat).Add
	return bigPoint{stepwise(add, p.x, big.NewRat(int64(v.X), 1)), stepwise(add, p.y, big.NewRat(int64(v.Y), 1))}.point()
}

func wantedSquare(p, q bigPoint) impl.Rat {
	sub, mul := (*big.Rat).Sub, (*big.Rat).Mul
	x, y := stepwise(sub, q.x, p.x), stepwise(sub, q.y, p.y)
	if result := stepwise((*big.Rat).Add, stepwise(mul, x, x), stepwise(mul, y, y)); result != nil {
		return ratOf(result)
	}
	return impl.Rat{}
}

func samePoint(p, q impl.Point) bool {
	return sameRat(p.X, q.X) && sameRat(p.Y, q.Y)
}

func isZeroPoint(p impl.Point) bool {
	return samePoint(p, impl.Point{})
}

func whole(x, y int) impl.Point {
	return impl.Point{X: impl.RatFromInt(x), Y: impl.RatFromInt(y)}
}

func wholeOf(limbs []int) impl.Rat { return fraction(false, limbs, []int{1}) }

// edgeVecs are valid: all vectors with coordinates at the ends of the range and around 0.
func edgeVecs() []impl.Vec {
	ends := []int{-impl.MaxCoord, -impl.MaxCoord + 1, -1, 0, 1, impl.MaxCoord - 1, impl.MaxCoord}
	var l []impl.Vec
	for _, x := range ends {
		for _, y := range ends {
			l = append(l, impl.Vec{X: x, Y: y})
		}
	}
	return l
}

// badVecs have a coordinate that is one beyond the range or at an end of the ints, or two.
func badVecs() []impl.Vec {
	beyond := []int{-impl.MaxCoord - 1, impl.MaxCoord + 1, math.MinInt, math.MinInt + 1, math.MaxInt, 1 << 32, -1 << 32}
	var l []impl.Vec
	for _, n := range beyond {
		for _, m := range []int{-impl.MaxCoord, 0, 7, impl.MaxCoord} {
			l = append(l, impl.Vec{X: n, Y: m}, impl.Vec{X: m, Y: n})
		}
		for _, m := range beyond {
			l = append(l, impl.Vec{X: n, Y: m})
		}
	}
	return l
}

func randomVec(random *rand.Rand) impl.Vec {
	return impl.Vec{X: random.Intn(2*impl.MaxCoord+1) - impl.MaxCoord, Y: random.Intn(2*impl.MaxCoord+1) - impl.MaxCoord}
}

// badPoints have a coordinate that is no fraction, or two.
func badPoints() []impl.Point {
	var l []impl.Point
	for _, bad := range badRats() {
		for _, good := range []impl.Rat{impl.RatFromInt(0), impl.RatOf(-1, 2)} {
			l = append(l, impl.Point{X: bad, Y: good}, impl.Point{X: good, Y: bad})
		}
		l = append(l, impl.Point{X: bad, Y: bad}, impl.Point{X: bad}, impl.Point{Y: bad})
	}
	return l
}

func randomPoint(random *rand.Rand, most int) impl.Point {
	return impl.Point{X: randomRat(random, most), Y: randomRat(random, most)}
}

// edgePoints have every fraction of edgeRats as either coordinate, with any other one.
func edgePoints() []impl.Point {
	random := rand.New(rand.NewSource(40))
	edges := edgeRats()
	var l []impl.Point
	for _, r := range edges {
		l = append(l, impl.Point{X: r, Y: edges[random.Intn(len(edges))]}, impl.Point{X: edges[random.Intn(len(edges))], Y: r})
	}
	return l
}

// samplePoints are points of all sizes, whole and not. Some pairs of them are followed by their middle.
func samplePoints() []impl.Point {
	random := rand.New(rand.NewSource(41))
	l := edgePoints()
	for range 1000 {
		p, q := randomPoint(random, 1+random.Intn(impl.MaxRat)), randomPoint(random, 1+random.Intn(4))
		r := impl.Point{X: q.Y, Y: q.X}
		m := wantedMiddle(bigPointOf(q), bigPointOf(r))
		l = append(l, p, q, r, m, impl.PointOf(randomVec(random)))
	}
	return l
}

func TestMaxCoord(t *testing.T) {
	if impl.MaxCoord != 1000 {
		t.Errorf("MaxCoord is %d", impl.MaxCoord)
	}
}

func TestIsValidVec(t *testing.T) {
	random := rand.New(rand.NewSource(42))
	good := edgeVecs()
	for range 1000 {
		good = append(good, randomVec(random))
	}
	for _, v := range good {
		if !impl.IsValidVec(v) {
			t.Errorf("IsValidVec(%v) is false", v)
		}
	}
	for _, v := range badVecs() {
		if impl.IsValidVec(v) {
			t.Errorf("IsValidVec(%v) is true", v)
		}
	}
	for _, n := range sampleInts() {
		want := -1000 <= n && n <= 1000
		if impl.IsValidVec(impl.Vec{X: n}) != want || impl.IsValidVec(impl.Vec{Y: n}) != want || impl.IsValidVec(impl.Vec{X: n, Y: n}) != want {
			t.Errorf("IsValidVec is wrong for the coordinate %d", n)
		}
	}
}

func TestIsValidPoint(t *testing.T) {
	for _, p := range samplePoints() {
		if !impl.IsValidPoint(p) {
			t.Errorf("IsValidPoint(%v) is false", p)
		}
	}
	for _, p := range badPoints() {
		if impl.IsValidPoint(p) {
			t.Errorf("IsValidPoint(%v) is true", p)
		}
	}
}

func TestTurn(t *testing.T) {
	const top = impl.MaxCoord
	cases := []struct {
		a, b, c impl.Vec
		want    int
	}{
		{impl.Vec{}, impl.Vec{X: 1}, impl.Vec{Y: 1}, 1},
		{impl.Vec{}, impl.Vec{Y: 1}, impl.Vec{X: 1}, -1},
		{impl.Vec{X: 1, Y: 2}, impl.Vec{X: 4, Y: 3}, impl.Vec{X: 2, Y: 7}, 14},
		{impl.Vec{}, impl.Vec{X: 1, Y: 1}, impl.Vec{X: -5, Y: -5}, 0},
		{impl.Vec{X: 1, Y: -2}, impl.Vec{X: 4}, impl.Vec{X: 7, Y: 2}, 0},
		{impl.Vec{X: 3, Y: 4}, impl.Vec{X: 3, Y: 4}, impl.Vec{X: 9, Y: -1}, 0},
		{impl.Vec{X: 3, Y: 4}, impl.Vec{X: 9, Y: -1}, impl.Vec{X: 3, Y: 4}, 0},
		{impl.Vec{X: 9, Y: -1}, impl.Vec{X: 3, Y: 4}, impl.Vec{X: 3, Y: 4}, 0},
		{impl.Vec{X: 3, Y: 4}, impl.Vec{X: 3, Y: 4}, impl.Vec{X: 3, Y: 4}, 0},
		{impl.Vec{X: -top, Y: -top}, impl.Vec{X: top, Y: -top}, impl.Vec{X: top, Y: top}, 4000000},
		{impl.Vec{X: -top, Y: -top}, impl.Vec{X: -top, Y: top}, impl.Vec{X: top, Y: -top}, -4000000},
		{impl.Vec{X: -top, Y: -top}, impl.Vec{}, impl.Vec{X: top, Y: top}, 0},
	}
	for _, c := range cases {
		if got := impl.Turn(c.a, c.b, c.c); got != c.want {
			t.Errorf("Turn(%v, %v, %v) = %d, want %d", c.a, c.b, c.c, got, c.want)
		}
	}
}

// vecTriples are all triples of a small grid, of which many are equal or on a line, and triples of the whole range.
func vecTriples() [][3]impl.Vec {
	var grid []impl.Vec
	for x := -2; x <= 2; x++ {
		for y := -1; y <= 2; y++ {
			grid = append(grid, impl.Vec{X: x, Y: y})
		}
	}
	var l [][3]impl.Vec
	for _, a := range grid {
		for _, b := range grid {
			for _, c := range grid {
				l = append(l, [3]impl.Vec{a, b, c})
			}
		}
	}
	random := rand.New(rand.NewSource(43))
	edges := edgeVecs()
	for range 3000 {
		a, b := randomVec(random), randomVec(random)
		between := impl.Vec{X: (a.X + b.X) / 2, Y: (a.Y + b.Y) / 2}
		l = append(l, [3]impl.Vec{a, b, randomVec(random)}, [3]impl.Vec{a, b, between})
		l = append(l, [3]impl.Vec{edges[random.Intn(len(edges))], edges[random.Intn(len(edges))], edges[random.Intn(len(edges))]})
	}
	return l
}

// P2: the orientation of three vectors is the area that they span, and both functions of it agree.
func TestTurnIsTwiceTheArea(t *testing.T) {
	for _, v := range vecTriples() {
		a, b, c := v[0], v[1], v[2]
		want := a.X*b.Y - a.Y*b.X + b.X*c.Y - b.Y*c.X + c.X*a.Y - c.Y*a.X
		if got := impl.Turn(a, b, c); got != want {
			t.Fatalf("Turn(%v, %v, %v) = %d, want %d", a, b, c, got, want)
		}
		if got, sign := impl.Side(impl.PointOf(a), impl.PointOf(b), impl.PointOf(c)), big.NewInt(int64(want)).Sign(); got != sign {
			t.Fatalf("Side of the points of %v, %v and %v is %d, want %d", a, b, c, got, sign)
		}
	}
}

// P2: the orientation changes its sign when two points are exchanged, and keeps it when all move on.
func TestOrientationChangesItsSign(t *testing.T) {
	for _, v := range vecTriples() {
		a, b, c := v[0], v[1], v[2]
		turn := impl.Turn(a, b, c)
		if impl.Turn(b, a, c) != -turn || impl.Turn(a, c, b) != -turn || impl.Turn(c, b, a) != -turn {
			t.Fatalf("Turn of %v, %v and %v does not change its sign", a, b, c)
		}
		if impl.Turn(b, c, a) != turn || impl.Turn(c, a, b) != turn {
			t.Fatalf("Turn of %v, %v and %v depends on the first one", a, b, c)
		}
	}
	random := rand.New(rand.NewSource(44))
	signs := map[int]int{}
	for range 3000 {
		most := 1 + random.Intn(2)
		p, q, r := randomPoint(random, most), randomPoint(random, most), randomPoint(random, most)
		side := impl.Side(p, q, r)
		signs[side]++
		if impl.Side(q, p, r) != -side || impl.Side(p, r, q) != -side || impl.Side(r, q, p) != -side {
			t.Fatalf("Side of %v, %v and %v does not change its sign", p, q, r)
		}
		if impl.Side(q, r, p) != side || impl.Side(r, p, q) != side {
			t.Fatalf("Side of %v, %v and %v depends on the first one", p, q, r)
		}
		if impl.Side(p, p, q) != 0 || impl.Side(p, q, p) != 0 || impl.Side(q, p, p) != 0 || impl.Side(p, p, p) != 0 {
			t.Fatalf("Side is not 0 for %v, %v and equal points", p, q)
		}
	}
	if signs[1] < 500 || signs[-1] < 500 {
		t.Errorf("the random points have these orientations only: %v", signs)
	}
}

func TestTurnRefusesWhatIsNoVector(t *testing.T) {
	a, b, c := impl.Vec{X: 1, Y: 2}, impl.Vec{X: 4, Y: 3}, impl.Vec{X: 2, Y: 7}
	for _, bad := range badVecs() {
		for _, got := range []int{impl.Turn(bad, b, c), impl.Turn(a, bad, c), impl.Turn(a, b, bad), impl.Turn(bad, bad, bad)} {
			if got != 0 {
				t.Errorf("Turn with %v is %d", bad, got)
			}
		}
	}
}

func TestPointOf(t *testing.T) {
	vecs := append(edgeVecs(), badVecs()...)
	for _, n := range sampleInts() {
		vecs = append(vecs, impl.Vec{X: n, Y: 5}, impl.Vec{X: -2, Y: n})
	}
	for _, v := range vecs {
		p := impl.PointOf(v)
		want := bigPoint{big.NewRat(int64(v.X), 1), big.NewRat(int64(v.Y), 1)}.point()
		if !samePoint(p, want) || !impl.IsValidPoint(p) {
			t.Errorf("PointOf(%v) = %v, want %v", v, p, want)
		}
	}
}

// SamePoint compares what is there, valid or not, as RatEqual does.
func TestSamePoint(t *testing.T) {
	points := append(edgePoints(), badPoints()...)
	points = append(points, impl.Point{X: fraction(false, []int{}, []int{}), Y: fraction(false, nil, []int{})}, whole(0, 0), whole(0, 1), whole(1, 0), whole(0, -1), whole(-1, 0))
	for _, p := range points {
		for _, q := range points {
			if got, want := impl.SamePoint(p, q), samePoint(p, q); got != want {
				t.Fatalf("SamePoint(%v, %v) = %v", p, q, got)
			}
		}
	}
	if !impl.SamePoint(impl.Point{}, impl.Point{}) || !impl.SamePoint(whole(0, 3), impl.Point{X: fraction(false, []int{}, []int{1}), Y: impl.RatOf(6, 2)}) {
		t.Error("SamePoint is false for equal points")
	}
	if impl.SamePoint(whole(1, 2), whole(2, 1)) || impl.SamePoint(whole(1, 2), whole(1, -2)) {
		t.Error("SamePoint is true for different points")
	}
}

// P15: every function of points gives what big.Rat gives, or the zero value if something on the way is too long.
func TestPointFunctionsGiveTheRightPoints(t *testing.T) {
	random := rand.New(rand.NewSource(45))
	points, ints := samplePoints(), sampleInts()
	sides, fitting := map[int]int{}, map[bool]int{}
	for range 15000 {
		i := random.Intn(len(points) - 2)
		p, q, r := points[i], points[i+1], points[i+2]
		if random.Intn(2) == 0 {
			q = points[random.Intn(len(points))]
		}
		v := impl.Vec{X: ints[random.Intn(len(ints))], Y: ints[random.Intn(len(ints))]}
		a, b, c := bigPointOf(p), bigPointOf(q), bigPointOf(r)
		if got, want := impl.Side(p, q, r), wantedSide(a, b, c); got != want {
			t.Fatalf("Side(%v, %v, %v) = %d, want %d", p, q, r, got, want)
		}
		if got, want := impl.MiddleOf(p, q), wantedMiddle(a, b); !samePoint(got, want) {
			t.Fatalf("MiddleOf(%v, %v) = %v, want %v", p, q, got, want)
		}
		if got, want := impl.MovePoint(p, v), wantedMove(a, v); !samePoint(got, want) {
			t.Fatalf("MovePoint(%v, %v) = %v, want %v", p, v, got, want)
		}
		if got, want := impl.SquareDistance(p, q), wantedSquare(a, b); !sameRat(got, want) {
			t.Fatalf("SquareDistance(%v, %v) = %v, want %v", p, q, got, want)
		}
		sides[impl.Side(p, q, r)]++
		fitting[isZeroPoint(impl.MiddleOf(p, q))]++
	}
	if sides[-1] < 100 || sides[0] < 100 || sides[1] < 100 || fitting[true] < 100 || fitting[false] < 100 {
		t.Errorf("the sample is too narrow: %v, %v", sides, fitting)
	}
}

func TestSide(t *testing.T) {
	half, third := impl.RatOf(1, 2), impl.RatOf(-1, 3)
	tests := []struct {
		name    string
		p, q, r impl.Point
		want    int
	}{
		{"to the left", whole(0, 0), whole(1, 0), whole(0, 1), 1},
		{"to the right", whole(0, 0), whole(0, 1), whole(1, 0), -1},
		{"on the line ahead", whole(0, 0), whole(1, 2), whole(5, 10), 0},
		{"on the line behind", whole(0, 0), whole(1, 2), whole(-3, -6), 0},
		{"on the line with fractions", impl.Point{X: half, Y: third}, impl.Point{X: impl.RatOf(3, 2), Y: impl.RatOf(1, 3)}, impl.Point{X: impl.RatOf(5, 4), Y: impl.RatOf(1, 6)}, 0},
		{"just above the line", impl.Point{X: half, Y: third}, impl.Point{X: impl.RatOf(3, 2), Y: impl.RatOf(1, 3)}, impl.Point{X: impl.RatOf(5, 4), Y: impl.RatOf(166667, 1000000)}, 1},
		{"just below the line", impl.Point{X: half, Y: third}, impl.Point{X: impl.RatOf(3, 2), Y: impl.RatOf(1, 3)}, impl.Point{X: impl.RatOf(5, 4), Y: impl.RatOf(166666, 1000000)}, -1},
		{"beyond the range of vectors", whole(math.MinInt, math.MinInt), whole(math.MaxInt, math.MaxInt), whole(0, 0), 0},
		{"far beyond it", whole(math.MinInt, math.MinInt), whole(math.MaxInt, math.MaxInt), whole(0, 1), 1},
	}
	for _, c := range tests {
		if got := impl.Side(c.p, c.q, c.r); got != c.want {
			t.Errorf("%s: %d, want %d", c.name, got, c.want)
		}
	}
}

// Differences, products and their difference of MaxRat limbs have a sign; with one limb more there is none.
func TestSideAtTheLimitOfLimbs(t *testing.T) {
	zero, one, minusOne := impl.RatFromInt(0), impl.RatFromInt(1), impl.RatFromInt(-1)
	top, lowest, below := wholeOf(longest()), fraction(true, longest(), []int{1}), fraction(false, []int{1}, longest())
	base11, base12 := wholeOf(unit(11)), wholeOf(unit(12))
	base12Plus1, base12Plus2 := wholeOf(append([]int{1}, unit(11)...)), wholeOf(append([]int{2}, unit(11)...))
	point := func(x, y impl.Rat) impl.Point { return impl.Point{X: x, Y: y} }
	cases := []struct {
		name    string
		p, q, r impl.Point
		want    int
	}{
		{"a product of 24 limbs", whole(0, 0), point(base12, zero), point(zero, base11), 1},
		{"a product of 24 limbs, to the right", whole(0, 0), point(zero, base12), point(base11, zero), -1},
		{"a product of 25 limbs", whole(0, 0), point(base12, zero), point(zero, base12), 0},
		{"a product of 25 limbs, to the right", whole(0, 0), point(zero, base12), point(base12, zero), 0},
		{"products of 25 limbs that differ by 1", whole(0, 0), point(base12Plus1, base12), point(base12Plus2, base12Plus1), 0},
		{"a product of the greatest fraction", whole(0, 0), point(top, zero), point(zero, minusOne), -1},
		{"the greatest fraction - 1", whole(0, 0), point(top, one), point(one, one), 1},
		{"the greatest fraction + 1", whole(0, 0), point(top, one), point(minusOne, one), 0},
		{"the greatest fraction as a difference", point(one, zero), point(lowest, zero), point(zero, one), 0},
		{"a difference of 24 limbs", point(minusOne, zero), point(lowest, zero), point(zero, one), -1},
		{"a difference of 25 limbs that would be multiplied by 0", point(minusOne, zero), point(top, zero), whole(5, 0), 0},
		{"a denominator of 24 limbs", whole(0, 0), point(below, zero), point(zero, one), 1},
		{"a denominator of 25 limbs", whole(0, 0), point(below, zero), point(zero, impl.RatOf(1, 2)), 0},
	}
	for _, c := range cases {
		if got := impl.Side(c.p, c.q, c.r); got != c.want {
			t.Errorf("%s: %d, want %d", c.name, got, c.want)
		}
		if got := impl.Side(c.p, c.r, c.q); got != -c.want {
			t.Errorf("%s, exchanged: %d, want %d", c.name, got, -c.want)
		}
	}
}

func TestMiddleOf(t *testing.T) {
	cases := []struct{ p, q, want string }{
		{"0,0", "0,0", "0,0"}, {"1,0", "0,1", "1/2,1/2"}, {"-3,5", "3,-5", "0,0"}, {"2,4", "4,8", "3,6"}, {"1/3,-1/2", "1/3,-1/2", "1/3,-1/2"},
		{"1/3,1/5", "1/2,-1/5", "5/12,0"}, {"-1000,1000", "1000,999", "0,1999/2"}, {"1/2,7", "-1/2,8", "0,15/2"},
		{"9223372036854775807,-9223372036854775808", "9223372036854775807,-9223372036854775808", "9223372036854775807,-9223372036854775808"},
	}
	for _, c := range cases {
		p, pOk := impl.ParsePoint(c.p)
		q, qOk := impl.ParsePoint(c.q)
		if got, back := impl.FormatPoint(impl.MiddleOf(p, q)), impl.FormatPoint(impl.MiddleOf(q, p)); got != c.want || back != c.want || !pOk || !qOk {
			t.Errorf("MiddleOf(%s, %s) = %s, and exchanged %s, want %s", c.p, c.q, got, back, c.want)
		}
	}
}

// P2: the middle is on the line of both points, between them, and half of their distance away from each.
func TestMiddleIsOnTheLineAndEquallyFar(t *testing.T) {
	random := rand.New(rand.NewSource(46))
	for range 2000 {
		most := 1 + random.Intn(2)
		p, q := randomPoint(random, most), randomPoint(random, most)
		checkMiddle(t, p, q)
		checkMiddle(t, p, p)
		checkMiddle(t, impl.PointOf(randomVec(random)), impl.PointOf(randomVec(random)))
		checkMiddle(t, p, impl.PointOf(randomVec(random)))
	}
}

func checkMiddle(t *testing.T, p, q impl.Point) {
	t.Helper()
	m := impl.MiddleOf(p, q)
	if !impl.IsValidPoint(m) || !impl.SamePoint(m, impl.MiddleOf(q, p)) {
		t.Fatalf("the middle of %v and %v is %v", p, q, m)
	}
	if impl.Side(p, q, m) != 0 || impl.Side(m, p, q) != 0 || impl.Side(p, m, q) != 0 {
		t.Fatalf("the middle of %v and %v is not on their line", p, q)
	}
	fromP, fromQ, apart := impl.SquareDistance(p, m), impl.SquareDistance(m, q), impl.SquareDistance(p, q)
	if !impl.RatOk(fromP) || !impl.RatEqual(fromP, fromQ) {
		t.Fatalf("the middle of %v and %v is not as far from the one as from the other", p, q)
	}
	if !impl.RatOk(apart) || !impl.RatEqual(impl.RatMul(fromP, impl.RatFromInt(4)), apart) {
		t.Fatalf("the middle of %v and %v is not half way", p, q)
	}
	if impl.SamePoint(p, q) != impl.SamePoint(p, m) || !impl.RatEqual(apart, impl.SquareDistance(q, p)) {
		t.Fatalf("the distance of %v and %v depends on their order", p, q)
	}
}

// The sum of two coordinates must fit, and then its half; if one coordinate does not fit, there is no point at all.
func TestMiddleOfAtTheLimitOfLimbs(t *testing.T) {
	zero := impl.RatFromInt(0)
	top, lowest, smallest := wholeOf(longest()), fraction(true, longest(), []int{1}), fraction(false, []int{1}, longest())
	half, justBelow := wholeOf(append(make([]int, 23), 500000000)), wholeOf(append(make([]int, 23), 499999999))
	smallestEven := fraction(false, []int{2}, longest())
	cases := []struct {
		name       string
		r, s, want impl.Rat
	}{
		{"a sum of 24 limbs", justBelow, justBelow, justBelow},
		{"a sum of 25 limbs", half, half, impl.Rat{}},
		{"a sum of 25 limbs of different numbers", top, impl.RatFromInt(1), impl.Rat{}},
		{"the greatest fraction twice", top, top, impl.Rat{}},
		{"the greatest fraction and the least one", top, lowest, zero},
		{"the greatest fraction and 0", top, zero, fraction(false, longest(), []int{2})},
		{"the smallest fraction and 0", smallest, zero, impl.Rat{}},
		{"twice the smallest fraction and 0", smallestEven, zero, smallest},
		{"the smallest fraction twice", smallest, smallest, smallest},
		{"the smallest fraction and the greatest one", smallest, top, impl.Rat{}},
	}
	for _, c := range cases {
		for _, other := range []impl.Rat{zero, impl.RatOf(5, 7)} {
			var alongX, alongY impl.Point
			if !isZeroRat(c.want) {
				alongX, alongY = impl.Point{X: c.want, Y: other}, impl.Point{X: other, Y: c.want}
			}
			for _, pair := range [][2]impl.Rat{{c.r, c.s}, {c.s, c.r}} {
				if got := impl.MiddleOf(impl.Point{X: pair[0], Y: other}, impl.Point{X: pair[1], Y: other}); !samePoint(got, alongX) {
					t.Errorf("%s: %v, want %v", c.name, got, alongX)
				}
				if got := impl.MiddleOf(impl.Point{X: other, Y: pair[0]}, impl.Point{X: other, Y: pair[1]}); !samePoint(got, alongY) {
					t.Errorf("%s: %v, want %v", c.name, got, alongY)
				}
			}
		}
	}
}

func TestMovePoint(t *testing.T) {
	cases := []struct {
		p    string
		v    impl.Vec
		want string
	}{
		{"0,0", impl.Vec{}, "0,0"}, {"1/2,1/2", impl.Vec{X: -3, Y: 4}, "-5/2,9/2"}, {"1,2", impl.Vec{X: -1, Y: -2}, "0,0"}, {"-1/3,7", impl.Vec{X: 1, Y: 1}, "2/3,8"},
		{"0,0", impl.Vec{X: impl.MaxCoord, Y: -impl.MaxCoord}, "1000,-1000"}, {"0,0", impl.Vec{X: impl.MaxCoord + 1, Y: -impl.MaxCoord - 1}, "1001,-1001"},
		{"1/2,-1/2", impl.Vec{X: math.MaxInt, Y: math.MinInt}, "18446744073709551615/2,-18446744073709551617/2"},
		{"1,-1", impl.Vec{X: math.MaxInt, Y: math.MinInt}, "9223372036854775808,-9223372036854775809"},
	}
	for _, c := range cases {
		p, ok := impl.ParsePoint(c.p)
		if got := impl.FormatPoint(impl.MovePoint(p, c.v)); got != c.want || !ok {
			t.Errorf("MovePoint(%s, %v) = %s, want %s", c.p, c.v, got, c.want)
		}
	}
}

// A point that is moved and moved back is where it was, and its distance from where it was depends on the vector only.
func TestMovePointAndBack(t *testing.T) {
	random := rand.New(rand.NewSource(47))
	for range 2000 {
		p, v := randomPoint(random, 1+random.Intn(3)), randomVec(random)
		moved := impl.MovePoint(p, v)
		if back := impl.MovePoint(moved, impl.Vec{X: -v.X, Y: -v.Y}); !samePoint(back, p) {
			t.Fatalf("%v moved by %v and back is %v", p, v, back)
		}
		if got := impl.SquareDistance(p, moved); !sameRat(got, impl.RatFromInt(v.X*v.X+v.Y*v.Y)) {
			t.Fatalf("%v moved by %v is the square of %v away", p, v, got)
		}
	}
}

func TestMovePointAtTheLimitOfLimbs(t *testing.T) {
	top, lowest := wholeOf(longest()), fraction(true, longest(), []int{1})
	almost, smallest := wholeOf(append([]int{limbTop - 7}, repeated(limbTop, 23)...)), fraction(false, []int{1}, longest())
	cases := []struct {
		name string
		r    impl.Rat
		n    int
		want impl.Rat
	}{
		{"to the greatest fraction", almost, 7, top},
		{"beyond the greatest fraction", almost, 8, impl.Rat{}},
		{"back from the greatest fraction", top, -7, almost},
		{"beyond the least fraction", lowest, -1, impl.Rat{}},
		{"nowhere", top, 0, top},
		{"the smallest fraction", smallest, 0, smallest},
		{"1 more than the smallest fraction", smallest, 1, impl.Rat{}},
		{"1 less than the smallest fraction", smallest, -1, fraction(true, append([]int{limbTop - 1}, repeated(limbTop, 23)...), longest())},
	}
	for _, c := range cases {
		for _, other := range []impl.Rat{impl.RatFromInt(0), impl.RatOf(5, 7)} {
			var alongX, alongY impl.Point
			if !isZeroRat(c.want) {
				alongX, alongY = impl.Point{X: c.want, Y: other}, impl.Point{X: other, Y: c.want}
			}
			if got := impl.MovePoint(impl.Point{X: c.r, Y: other}, impl.Vec{X: c.n}); !samePoint(got, alongX) {
				t.Errorf("%s: %v, want %v", c.name, got, alongX)
			}
			if got := impl.MovePoint(impl.Point{X: other, Y: c.r}, impl.Vec{Y: c.n}); !samePoint(got, alongY) {
				t.Errorf("%s: %v, want %v", c.name, got, alongY)
			}
		}
	}
}

func TestSquareDistance(t *testing.T) {
	base11, base12 := wholeOf(unit(11)), wholeOf(unit(12))
	smallest, top := fraction(false, []int{1}, longest()), wholeOf(longest())
	over12 := fraction(false, []int{1}, unit(12))
	zero, one := impl.RatFromInt(0), impl.RatFromInt(1)
	cases := []struct {
		name string
		p, q impl.Point
		want impl.Rat
	}{
		{"equal points", whole(3, -7), whole(3, -7), zero},
		{"equal points of 24 limbs", impl.Point{X: top, Y: smallest}, impl.Point{X: top, Y: smallest}, zero},
		{"along X", whole(3, 1), whole(-2, 1), impl.RatFromInt(25)},
		{"along Y", whole(1, 3), whole(1, -2), impl.RatFromInt(25)},
		{"3, 4 and 5", whole(1, 1), whole(4, 5), impl.RatFromInt(25)},
		{"halves", impl.Point{X: impl.RatOf(1, 2), Y: impl.RatOf(1, 2)}, whole(0, 0), impl.RatOf(1, 2)},
		{"thirds and halves", impl.Point{X: impl.RatOf(-1, 3), Y: impl.RatOf(1, 2)}, whole(0, 0), impl.RatOf(13, 36)},
		{"the ends of the range", whole(-1000, -1000), whole(1000, 1000), impl.RatFromInt(8000000)},
		{"a square of 23 limbs", whole(0, 0), impl.Point{X: base11, Y: zero}, wholeOf(unit(22))},
		{"a square of 25 limbs", whole(0, 0), impl.Point{X: base12, Y: zero}, impl.Rat{}},
		{"a square of 25 limbs along Y", whole(0, 0), impl.Point{X: zero, Y: base12}, impl.Rat{}},
		{"a denominator of 25 limbs", whole(0, 0), impl.Point{X: over12, Y: zero}, impl.Rat{}},
		{"a difference of 24 limbs", impl.Point{X: top, Y: zero}, impl.Point{X: impl.RatSub(top, one), Y: one}, impl.RatFromInt(2)},
		{"a difference of 25 limbs", impl.Point{X: top, Y: zero}, whole(-1, 0), impl.Rat{}},
	}
	for _, c := range cases {
		if got, back := impl.SquareDistance(c.p, c.q), impl.SquareDistance(c.q, c.p); !sameRat(got, c.want) || !sameRat(back, c.want) {
			t.Errorf("%s: %v, and exchanged %v, want %v", c.name, got, back, c.want)
		}
	}
	ends := whole(math.MinInt, math.MinInt)
	if got := impl.FormatRat(impl.SquareDistance(ends, whole(math.MaxInt, math.MaxInt))); got != "680564733841876926852962238568698216450" {
		t.Errorf("the square distance of the least and the greatest ints is %s", got)
	}
}

// The squares must fit, and then their sum. What does not fit on the way makes the result the zero value, as chapter 5
// says, even where the exact sum would be short again.
func TestSquareDistanceOfASumAtTheLimitOfLimbs(t *testing.T) {
	zero, nines := impl.RatFromInt(0), wholeOf(repeated(limbTop, 12))
	square := append(append([]int{1}, make([]int, 11)...), append([]int{limbTop - 1}, repeated(limbTop, 11)...)...)
	if got := impl.SquareDistance(whole(0, 0), impl.Point{X: nines, Y: zero}); !sameRat(got, wholeOf(square)) {
		t.Errorf("the square of 12 limbs of nines is %v", got)
	}
	if got := impl.SquareDistance(whole(0, 0), impl.Point{X: nines, Y: nines}); !isZeroRat(got) {
		t.Errorf("a sum of 25 limbs of two squares of 24 limbs is %v", got)
	}
	// x, y and below are the sides of a right triangle, and the square of below has 25 limbs.
	below := append([]int{1}, append(make([]int, 11), 100)...)
	x, y := append(repeated(limbTop, 12), 99), append(make([]int, 6), 20)
	onCircle := impl.Point{X: fraction(false, x, below), Y: fraction(false, y, below)}
	if got := impl.SquareDistance(whole(0, 0), onCircle); !isZeroRat(got) || !impl.IsValidPoint(onCircle) {
		t.Errorf("a sum of 1 of two squares that do not fit is %v", got)
	}
}

func TestPointFunctionsRefuseWhatIsNoPoint(t *testing.T) {
	good := []impl.Point{whole(0, 0), whole(3, -1), {X: impl.RatOf(1, 2), Y: impl.RatOf(-5, 3)}}
	for _, bad := range badPoints() {
		for _, p := range good {
			q := impl.MovePoint(p, impl.Vec{X: 1, Y: 2})
			for _, got := range []int{impl.Side(bad, p, q), impl.Side(p, bad, q), impl.Side(p, q, bad), impl.Side(bad, bad, p), impl.Side(bad, bad, bad)} {
				if got != 0 {
					t.Errorf("Side with %v is %d", bad, got)
				}
			}
			for _, got := range []impl.Point{impl.MiddleOf(bad, p), impl.MiddleOf(p, bad), impl.MiddleOf(bad, bad), impl.MovePoint(bad, impl.Vec{}), impl.MovePoint(bad, impl.Vec{X: 3, Y: -1})} {
				if !isZeroPoint(got) {
					t.Errorf("a function of %v returns the point %v", bad, got)
				}
			}
			for _, got := range []impl.Rat{impl.SquareDistance(bad, p), impl.SquareDistance(p, bad), impl.SquareDistance(bad, bad)} {
				if !isZeroRat(got) {
					t.Errorf("SquareDistance with %v is %v", bad, got)
				}
			}
		}
		if got := impl.FormatPoint(bad); got != "" {
			t.Errorf("FormatPoint(%v) = %q", bad, got)
		}
	}
}

// P2: vectors are recovered from their text.
func TestVecIsRecoveredFromItsText(t *testing.T) {
	random := rand.New(rand.NewSource(48))
	vecs := edgeVecs()
	for range 3000 {
		vecs = append(vecs, randomVec(random))
	}
	for _, v := range vecs {
		s := impl.FormatVec(v)
		if want := strconv.Itoa(v.X) + "," + strconv.Itoa(v.Y); s != want {
			t.Errorf("FormatVec(%v) = %q, want %q", v, s, want)
		}
		if got, ok := impl.ParseVec(s); got != v || !ok {
			t.Errorf("ParseVec(%q) = %v, %v", s, got, ok)
		}
	}
	for _, bad := range badVecs() {
		if got := impl.FormatVec(bad); got != "" {
			t.Errorf("FormatVec(%v) = %q", bad, got)
		}
	}
}

func TestParseVecRefusesWhatFormatVecNeverWrites(t *testing.T) {
	bad := []string{
		"", ",", ",,", "1", "1,", ",1", "1,2,", ",1,2", "1,,2", "1,2,3", "1,2,3,4", "-1000", "12", "1 2", "1;2", "1.2", "1/2,1/2", "4/2,1", "1,4/2",
		"1001,0", "0,1001", "-1001,0", "0,-1001", "1001,1001", "1000,1001", "10000,1", "9223372036854775807,0", "0,-9223372036854775808", "9223372036854775808,0",
		"18446744073709551616,0", "0,18446744073709551617", "+1,2", "1,+2", "+0,0", "-0,0", "0,-0", "-0,-0", "00,0", "0,00", "01,2", "1,02", "-01,2", "--1,2", "1,--2", "-,1", "1,-",
		" 1,2", "1 ,2", "1, 2", "1,2 ", "1,2\n", "\n1,2", "1\n,2", "1,\t2", "(1,2)", "x,1", "1,x", "1e2,1", "1,1e2", "1.0,2", "1_0,2", "0x1,2", "1,0b1",
		"1\uff0c2", "\u0661,2", "1,\uff12", "1,2\x00", "\x001,2", "1\x00,2", strings.Repeat("9", 5000) + ",1", "1," + strings.Repeat("9", 5000), strings.Repeat(",", 50), strings.Repeat("1,", 50),
	}
	for _, s := range notUTF8 {
		bad = append(bad, s, s+",2", "1,"+s, "1,2"+s)
	}
	for _, s := range bad {
		if v, ok := impl.ParseVec(s); v != (impl.Vec{}) || ok {
			t.Errorf("ParseVec(%.30q) = %v, %v, want the zero value, false", s, v, ok)
		}
	}
}

// Every text of up to six of these bytes is a vector's text exactly if it is two written ints of the range.
func TestParseVecOnAllShortTexts(t *testing.T) {
	written := map[string]int{}
	for n := -1000; n <= 1000; n++ {
		written[strconv.Itoa(n)] = n
	}
	forAllTexts("-+0,1 ", 6, func(s string) {
		parts := strings.Split(s, ",")
		var want impl.Vec
		wantOk := len(parts) == 2
		if wantOk {
			x, xOk := written[parts[0]]
			y, yOk := written[parts[1]]
			if wantOk = xOk && yOk; wantOk {
				want = impl.Vec{X: x, Y: y}
			}
		}
		if got, ok := impl.ParseVec(s); got != want || ok != wantOk {
			t.Errorf("ParseVec(%q) = %v, %v, want %v, %v", s, got, ok, want, wantOk)
		}
	})
}

// P2: points are recovered from their text.
func TestPointIsRecoveredFromItsText(t *testing.T) {
	for _, p := range samplePoints() {
		s, q := impl.FormatPoint(p), bigPointOf(p)
		if want := q.x.RatString() + "," + q.y.RatString(); s != want {
			t.Errorf("FormatPoint(%v) = %q, want %q", p, s, want)
		}
		if got, ok := impl.ParsePoint(s); !samePoint(got, p) || !ok {
			t.Errorf("ParsePoint(%q) = %v, %v", s, got, ok)
		}
	}
	for _, v := range edgeVecs() {
		if got, want := impl.FormatPoint(impl.PointOf(v)), impl.FormatVec(v); got != want {
			t.Errorf("the text of the point of %v is %q, and its own %q", v, got, want)
		}
	}
}

func TestParsePointRefusesWhatFormatPointNeverWrites(t *testing.T) {
	nines, power := strings.Repeat("9", 9*impl.MaxRat), "1"+strings.Repeat("0", 9*impl.MaxRat)
	bad := []string{
		"", ",", ",,", "1", "1/2", "1,", ",1", "1/2,", ",1/2", "1,2,", ",1,2", "1,,2", "1,2,3", "1/2,1/3,1/4", "1/2/3", "1/2,1/3/4", "1 2", "1;2", "1/2 1/3",
		"2/4,1", "1,2/4", "1/1,1", "1,1/1", "0/1,1", "1,0/1", "1/0,1", "1,1/0", "0/0,0", "1/-2,1", "1,1/-2", "+1/2,1", "1,+1/2", "+1,2", "1,+2", "-0,0", "0,-0", "01,2", "1,02", "1/02,2", "1,1/02",
		" 1/2,1", "1/2 ,1", "1/2, 1", "1/2,1 ", "1 /2,1", "1/2,1\n", "\n1,2", "(1,2)", "x,1", "1,x", "0.5,1", "1,0.5", "1e2,1", "1\uff0c2", "\u00bd,1", "1,\u00bd", "1/2,1\x00", "\x001,1", "1,,", "/,/", "-,-",
		power + ",1", "1," + power, "1/" + power + ",1", "1,1/" + power, nines + "/" + power + ",1", "1," + nines + "/3", strings.Repeat("9", 5000) + ",1", strings.Repeat(",", 50), strings.Repeat("1,", 50),
	}
	for _, s := range notUTF8 {
		bad = append(bad, s, s+",2", "1,"+s, "1,2"+s)
	}
	for _, s := range bad {
		if p, ok := impl.ParsePoint(s); !isZeroPoint(p) || ok {
			t.Errorf("ParsePoint(%.30q) = %v, %v, want the zero value, false", s, p, ok)
		}
	}
}

// Every text of up to six of these bytes is a point's text exactly if big.Rat writes both parts of it.
func TestParsePointOnAllShortTexts(t *testing.T) {
	written := func(s string) *big.Rat {
		value, ok := new(big.Rat).SetString(s)
		if !ok || value.RatString() != s {
			return nil
		}
		return value
	}
	forAllTexts("-/0,12", 6, func(s string) {
		var want bigPoint
		if parts := strings.Split(s, ","); len(parts) == 2 {
			want = bigPoint{written(parts[0]), written(parts[1])}
		}
		wantOk := want.x != nil && want.y != nil
		if got, ok := impl.ParsePoint(s); ok != wantOk || !samePoint(got, want.point()) {
			t.Errorf("ParsePoint(%q) = %v, %v, want %v, %v", s, got, ok, want.point(), wantOk)
		}
	})
}

// partsOf are all slices of a point.
func partsOf(p impl.Point) [][]int {
	return [][]int{p.X.Num.Mag, p.X.Den, p.Y.Num.Mag, p.Y.Den}
}

// pointResults are the slices of the results of all functions of points, those of one result together.
func pointResults(p, q impl.Point) map[string][][]int {
	impl.IsValidPoint(p)
	impl.SamePoint(p, q)
	impl.Side(p, q, p)
	impl.FormatPoint(p)
	square := impl.SquareDistance(p, q)
	parsed, _ := impl.ParsePoint(impl.FormatPoint(p))
	return map[string][][]int{
		"MiddleOf": partsOf(impl.MiddleOf(p, q)), "MovePoint": partsOf(impl.MovePoint(p, impl.Vec{X: 3, Y: -1})), "MovePoint by nothing": partsOf(impl.MovePoint(p, impl.Vec{})),
		"SquareDistance": {square.Num.Mag, square.Den}, "ParsePoint": partsOf(parsed), "PointOf": partsOf(impl.PointOf(impl.Vec{X: 1, Y: 1})),
	}
}

// pointPairs are points of all sizes and what is no point.
func pointPairs() [][2]impl.Point {
	points := edgePoints()
	var pairs [][2]impl.Point
	for i, p := range points {
		pairs = append(pairs, [2]impl.Point{p, points[(7*i+3)%len(points)]}, [2]impl.Point{p, p}, [2]impl.Point{p, whole(0, 0)}, [2]impl.Point{whole(1, -2), p})
	}
	for _, bad := range badPoints() {
		pairs = append(pairs, [2]impl.Point{bad, whole(1, 2)}, [2]impl.Point{whole(1, 2), bad})
	}
	return pairs
}

func framedPoint(p impl.Point) (rows [][]int, inside impl.Point) {
	rowsX, x := framedRat(p.X)
	rowsY, y := framedRat(p.Y)
	return slices.Concat(rowsX[:], rowsY[:]), impl.Point{X: x, Y: y}
}

func TestPointFunctionsLeaveTheirArgumentsAlone(t *testing.T) {
	for _, pair := range pointPairs() {
		var was [][]int
		rowsP, p := framedPoint(pair[0])
		rowsQ, q := framedPoint(pair[1])
		rows := slices.Concat(rowsP, rowsQ)
		for _, row := range rows {
			was = append(was, slices.Clone(row))
		}
		for name, parts := range pointResults(p, q) {
			for _, part := range parts {
				overwrite(part)
			}
			for i, row := range rows {
				if !slices.Equal(row, was[i]) {
					t.Fatalf("%s of %v and %v, or a write to its result, changed an argument", name, pair[0], pair[1])
				}
			}
		}
	}
}

// Both points, both coordinates, and even the numerator and the denominator may be one slice.
func TestPointArgumentsMayBeTheSameSlice(t *testing.T) {
	for _, part := range [][]int{{1}, {7}, unit(12), longest()} {
		row, mag := framed(part)
		was := slices.Clone(row)
		r, s := fraction(true, mag, []int{1}), fraction(false, []int{1}, mag)
		for _, p := range []impl.Point{{X: r, Y: r}, {X: r, Y: s}, {X: s, Y: s}, {X: fraction(false, mag, mag), Y: r}} {
			for _, q := range []impl.Point{p, {X: p.Y, Y: p.X}} {
				for name, parts := range pointResults(p, q) {
					for _, one := range parts {
						overwrite(one)
					}
					if !slices.Equal(row, was) {
						t.Fatalf("%s of %v and %v changed them", name, p, q)
					}
				}
			}
		}
	}
}

// No two slices of one result share memory, not even behind their ends.
func TestPointResultsHaveTheirPartsApart(t *testing.T) {
	for _, pair := range pointPairs() {
		for name, parts := range pointResults(pair[0], pair[1]) {
			for i, part := range parts {
				var was [][]int
				for _, other := range parts {
					was = append(was, slices.Clone(other))
				}
				overwrite(part)
				for j, other := range parts {
					if j != i && !slices.Equal(other, was[j]) {
						t.Fatalf("a write to slice %d of %s of %v and %v changes slice %d", i, name, pair[0], pair[1], j)
					}
				}
				copy(part, was[i])
			}
		}
	}
}

func TestPointResultsAreNewEachTime(t *testing.T) {
	makers := map[string]func() impl.Point{
		"PointOf(1, 1)":              func() impl.Point { return impl.PointOf(impl.Vec{X: 1, Y: 1}) },
		"PointOf of the least int":   func() impl.Point { return impl.PointOf(impl.Vec{X: math.MinInt, Y: 0}) },
		"ParsePoint(1/2,-3)":         func() impl.Point { p, _ := impl.ParsePoint("1/2,-3"); return p },
		"MiddleOf(1 1, 2 2)":         func() impl.Point { return impl.MiddleOf(whole(1, 1), whole(2, 2)) },
		"MovePoint(1 1, 0 0)":        func() impl.Point { return impl.MovePoint(whole(1, 1), impl.Vec{}) },
		"SquareDistance(1 1, -1 -1)": func() impl.Point { r := impl.SquareDistance(whole(1, 1), whole(-1, -1)); return impl.Point{X: r, Y: r} },
	}
	for name, build := range makers {
		want := bigPointOf(build())
		for _, part := range partsOf(build()) {
			overwrite(part)
		}
		if got := build(); !samePoint(got, want.point()) {
			t.Errorf("%s is %v after its last result was changed", name, got)
		}
	}
}
