package tests

import (
	"maps"
	"math/big"
	"math/rand"
	"slices"
	"strings"
	"testing"

	"loop.example/g00811/impl"
)

// pointsOf reads points that are separated by spaces.
func pointsOf(t *testing.T, s string) []impl.Point {
	t.Helper()
	var l []impl.Point
	for _, part := range strings.Fields(s) {
		p, ok := impl.ParsePoint(part)
		if !ok {
			t.Fatalf("%q is no point", part)
		}
		l = append(l, p)
	}
	return l
}

func bigPointOfVec(v impl.Vec) bigPoint {
	return bigPoint{big.NewRat(int64(v.X), 1), big.NewRat(int64(v.Y), 1)}
}

func fractionOf(q *big.Rat) impl.Rat {
	if q == nil {
		return impl.Rat{}
	}
	return ratOf(q)
}

func (p bigPoint) wayTo(q bigPoint) bigPoint {
	return bigPoint{new(big.Rat).Sub(q.x, p.x), new(big.Rat).Sub(q.y, p.y)}
}

// farther is p moved by a part of v.
func (p bigPoint) farther(v bigPoint, part *big.Rat) bigPoint {
	x, y := new(big.Rat).Mul(v.x, part), new(big.Rat).Mul(v.y, part)
	return bigPoint{x.Add(x, p.x), y.Add(y, p.y)}
}

func (p bigPoint) equals(q bigPoint) bool { return p.x.Cmp(q.x) == 0 && p.y.Cmp(q.y) == 0 }

func cross(v, w bigPoint) *big.Rat {
	return new(big.Rat).Sub(new(big.Rat).Mul(v.x, w.y), new(big.Rat).Mul(v.y, w.x))
}

func dot(v, w bigPoint) *big.Rat {
	return new(big.Rat).Add(new(big.Rat).Mul(v.x, w.x), new(big.Rat).Mul(v.y, w.y))
}

// isPart reports whether n / d is from 0 to 1.
func isPart(n, d *big.Rat) bool {
	quotient := new(big.Rat).Quo(n, d)
	return quotient.Sign() >= 0 && quotient.Cmp(big.NewRat(1, 1)) <= 0
}

func isBetween(p, a, b bigPoint) bool {
	return cross(a.wayTo(b), a.wayTo(p)).Sign() == 0 && dot(p.wayTo(a), p.wayTo(b)).Sign() <= 0
}

// wantedMeet finds the point in which the lines meet, and where it is on both. On parallel lines, and where a segment
// is a single point, an end of one is on the other.
func wantedMeet(a, b, c, d bigPoint) bool {
	v, w, apart := a.wayTo(b), c.wayTo(d), a.wayTo(c)
	if area := cross(v, w); area.Sign() != 0 {
		return isPart(cross(apart, w), area) && isPart(cross(apart, v), area)
	}
	return isBetween(a, c, d) || isBetween(b, c, d) || isBetween(c, a, b) || isBetween(d, a, b)
}

// partInside is what is left of a segment after all that is to the right of an edge is cut off: it leads from the part
// first of its length to the part last. If nothing is left, last is less than first.
func partInside(l []impl.Vec, p, q bigPoint) (first, last *big.Rat) {
	first, last = new(big.Rat), big.NewRat(1, 1)
	for i, corner := range l {
		a := bigPointOfVec(corner)
		edge := a.wayTo(bigPointOfVec(l[(i+1)%len(l)]))
		atP, atQ := cross(edge, a.wayTo(p)), cross(edge, a.wayTo(q))
		if atP.Sign() < 0 && atQ.Sign() < 0 {
			return big.NewRat(1, 1), new(big.Rat)
		}
		part := new(big.Rat).Quo(atP, nonzero(new(big.Rat).Sub(atP, atQ)))
		if atP.Sign() < 0 && part.Cmp(first) > 0 {
			first = part
		}
		if atQ.Sign() < 0 && part.Cmp(last) < 0 {
			last = part
		}
	}
	return first, last
}

func wantedMeeting(l []impl.Vec, p, q bigPoint) bool {
	first, last := partInside(l, p, q)
	return first.Cmp(last) <= 0
}

// exactToSegment has no limit on the way: the nearest point is an end if the angle there is not less than a right one.
func exactToSegment(p, a, b bigPoint) *big.Rat {
	v := a.wayTo(b)
	switch {
	case dot(v, a.wayTo(p)).Sign() <= 0:
		return dot(a.wayTo(p), a.wayTo(p))
	case dot(v, b.wayTo(p)).Sign() >= 0:
		return dot(b.wayTo(p), b.wayTo(p))
	}
	area := cross(v, a.wayTo(p))
	return new(big.Rat).Quo(new(big.Rat).Mul(area, area), dot(v, v))
}

// The following are what chapter 9 asks for, operation by operation: nil if a fraction on the way is too long.

func wantedInner(a, b, c bigPoint) *big.Rat {
	sub, mul := (*big.Rat).Sub, (*big.Rat).Mul
	first := stepwise(mul, stepwise(sub, b.x, a.x), stepwise(sub, c.x, a.x))
	second := stepwise(mul, stepwise(sub, b.y, a.y), stepwise(sub, c.y, a.y))
	return stepwise((*big.Rat).Add, first, second)
}

func wantedToSegment(p, a, b bigPoint) *big.Rat {
	if a.equals(b) {
		return wantedInner(p, a, a)
	}
	part := stepwise((*big.Rat).Quo, wantedInner(a, p, b), wantedInner(a, b, b))
	if part != nil {
		part = leastOf(greatestOf(part, new(big.Rat)), big.NewRat(1, 1))
	}
	nearest := bigPoint{stepwiseAlong(a.x, b.x, part), stepwiseAlong(a.y, b.y, part)}
	return wantedInner(p, nearest, nearest)
}

func stepwiseAlong(from, to, part *big.Rat) *big.Rat {
	return stepwise((*big.Rat).Add, from, stepwise((*big.Rat).Mul, part, stepwise((*big.Rat).Sub, to, from)))
}

func greatestOf(q, r *big.Rat) *big.Rat {
	if q.Cmp(r) > 0 {
		return q
	}
	return r
}

// leastOf is nil if one of the numbers is.
func leastOf(l ...*big.Rat) *big.Rat {
	if slices.Contains(l, nil) {
		return nil
	}
	return slices.MinFunc(l, (*big.Rat).Cmp)
}

func wantedToPolygon(l []impl.Vec, p bigPoint) *big.Rat {
	if wantedPlace(l, p) >= 0 {
		return new(big.Rat)
	}
	var squares []*big.Rat
	for i, corner := range l {
		squares = append(squares, wantedToSegment(p, bigPointOfVec(corner), bigPointOfVec(l[(i+1)%len(l)])))
	}
	return leastOf(squares...)
}

func wantedBetween(l []impl.Vec, p, q bigPoint) *big.Rat {
	if wantedMeeting(l, p, q) {
		return new(big.Rat)
	}
	squares := []*big.Rat{wantedToPolygon(l, p), wantedToPolygon(l, q)}
	for _, corner := range l {
		squares = append(squares, wantedToSegment(bigPointOfVec(corner), p, q))
	}
	return leastOf(squares...)
}

// exactBetween needs only the ends of the segments: two segments that do not meet are nearest at an end of one of them.
func exactBetween(l []impl.Vec, p, q bigPoint) *big.Rat {
	if wantedMeeting(l, p, q) {
		return new(big.Rat)
	}
	var squares []*big.Rat
	for i, corner := range l {
		a, b := bigPointOfVec(corner), bigPointOfVec(l[(i+1)%len(l)])
		squares = append(squares, exactToSegment(p, a, b), exactToSegment(q, a, b), exactToSegment(a, p, q))
	}
	return leastOf(squares...)
}

// checkMeet looks at the two segments in all orders.
func checkMeet(t *testing.T, a, b, c, d impl.Point, want bool) {
	t.Helper()
	for _, l := range [][4]impl.Point{{a, b, c, d}, {b, a, c, d}, {a, b, d, c}, {b, a, d, c}, {c, d, a, b}, {d, c, a, b}, {c, d, b, a}, {d, c, b, a}} {
		if got := impl.SegmentsMeet(l[0], l[1], l[2], l[3]); got != want {
			t.Fatalf("SegmentsMeet of %s to %s and %s to %s is %v", impl.FormatPoint(l[0]), impl.FormatPoint(l[1]), impl.FormatPoint(l[2]), impl.FormatPoint(l[3]), got)
		}
	}
}

func TestSegmentsMeet(t *testing.T) {
	cases := []struct {
		name, ends string
		want       bool
	}{
		{"they cross", "0,0 2,2 0,2 2,0", true},
		{"they cross near an end", "0,0 7,3 0,1 100,-10", true},
		{"they cross at a fraction", "0,0 3,1 1,-1 1,5", true},
		{"they cross, vertical and horizontal", "-1,5 3,5 0,0 0,9", true},
		{"an end on the other's inside", "0,0 4,0 2,0 2,5", true},
		{"an end on the inside of a slanting one", "-1,-1 2,1 1/2,0 7,-3", true},
		{"a common end", "0,0 1,0 1,0 5,7", true},
		{"a common end on one line", "0,0 1,2 1,2 4,8", true},
		{"a common end, going back", "0,0 3,6 3,6 1,2", true},
		{"both ends in common", "-1/3,1/2 4,4 4,4 -1/3,1/2", true},
		{"they overlap on a slanting line", "0,0 4,2 2,1 6,3", true},
		{"they overlap on a vertical line", "3,0 3,4 3,1 3,9", true},
		{"they overlap on a horizontal line", "0,3 4,3 -5,3 1,3", true},
		{"one is a part of the other", "0,0 9,3 3,1 6,2", true},
		{"one is a part of the other, with a common end", "0,0 9,3 3,1 0,0", true},
		{"on one line, apart", "0,0 1,0 2,0 3,0", false},
		{"on one vertical line, apart", "1,-3 1,0 1,1/1000 1,3", false},
		{"on one slanting line, apart", "0,0 2,1 3,3/2 6,3", false},
		{"on one slanting line, just apart", "0,0 2,1 2001/1000,2001/2000 6,3", false},
		{"parallel", "0,0 1,0 0,1 1,1", false},
		{"parallel and slanting", "0,0 6,4 1,0 4,2", false},
		{"parallel, their boxes apart", "0,0 3,1 7,7 10,8", false},
		{"the line of one meets the other one beyond its end", "0,0 2,2 3,0 3,9", false},
		{"just beyond its end", "0,0 2,2 0,4000001/1000000 4,0", false},
		{"just at its end", "0,0 2,2 0,4 4,0", true},
		{"just within its end", "0,0 2,2 0,3999999/1000000 4,0", true},
		{"the lines meet beyond both ends", "0,0 1,1 0,5 2,4", false},
		{"their boxes meet and they do not", "0,0 9,9 5,4 6,0", false},
		{"their boxes meet, and each is on one side of the other", "0,0 5,5 3,2 4,1", false},
		{"an end just beside the other's inside", "0,0 4,0 2,1/1000000 2,5", false},
		{"a point on a segment", "1,2 1,2 0,0 2,4", true},
		{"a point at the end of a segment", "2,4 2,4 0,0 2,4", true},
		{"a point on a vertical segment", "2,1/3 2,1/3 2,0 2,4", true},
		{"a point on the line of a segment, ahead", "3,6 3,6 0,0 2,4", false},
		{"a point on the line of a segment, behind", "-1/2,-1 -1/2,-1 0,0 2,4", false},
		{"a point on the line of a vertical segment", "2,5 2,5 2,0 2,4", false},
		{"a point on the line of a horizontal segment", "5,2 5,2 0,2 4,2", false},
		{"a point beside a segment", "1,3 1,3 0,0 2,4", false},
		{"a point far from a segment", "9,-9 9,-9 0,0 2,4", false},
		{"the same point twice", "1/2,-7 1/2,-7 1/2,-7 1/2,-7", true},
		{"two points with the same X", "1,2 1,2 1,3 1,3", false},
		{"two points with the same Y", "1,2 1,2 2,2 2,2", false},
		{"two points", "1,2 1,2 3,4 3,4", false},
		{"the diagonals of the range", "-1000,-1000 1000,1000 -1000,1000 1000,-1000", true},
		{"two sides of the range", "-1000,-1000 1000,-1000 1000,-1000 1000,1000", true},
		{"opposite sides of the range", "-1000,-1000 1000,-1000 -1000,1000 1000,1000", false},
		{"just beside the diagonal", "-1000,-1000 1000,1000 -1000,-999 999,1000", false},
		{"far beyond the range", "-9223372036854775808,0 9223372036854775807,0 5,-7 5,12345678901234567890", true},
	}
	for _, c := range cases {
		l := pointsOf(t, c.ends)
		if got := impl.SegmentsMeet(l[0], l[1], l[2], l[3]); got != c.want {
			t.Errorf("%s: %v", c.name, got)
		}
		for _, p := range slices.Clone(l) {
			l = append(l, impl.Point{X: p.Y, Y: impl.RatNeg(p.X)})
		}
		checkMeet(t, l[0], l[1], l[2], l[3], c.want)
		checkMeet(t, l[4], l[5], l[6], l[7], c.want)
	}
}

// P15: all pairs of segments of a small grid, of which many overlap, are parallel or are single points.
func TestSegmentsMeetOnAGrid(t *testing.T) {
	found := map[bool]int{}
	grid := gridOf(impl.Vec{X: -1}, impl.Vec{X: 2, Y: 2})
	for _, a := range grid {
		for _, b := range grid {
			for _, c := range grid {
				for _, d := range grid {
					want := wantedMeet(bigPointOfVec(a), bigPointOfVec(b), bigPointOfVec(c), bigPointOfVec(d))
					if got := impl.SegmentsMeet(impl.PointOf(a), impl.PointOf(b), impl.PointOf(c), impl.PointOf(d)); got != want {
						t.Fatalf("SegmentsMeet of %v to %v and %v to %v is %v", a, b, c, d, got)
					}
					found[want]++
				}
			}
		}
	}
	if found[true] < 1000 || found[false] < 1000 {
		t.Errorf("the segments are too much alike: %v", found)
	}
}

// parts are places on the line of a segment, as parts of its length: on it, at its ends, and ahead and behind.
func parts(random *rand.Rand) []*big.Rat {
	return []*big.Rat{
		new(big.Rat), big.NewRat(1, 1), big.NewRat(1, 2), big.NewRat(-1, 3), big.NewRat(4, 3), big.NewRat(-1, 1), big.NewRat(2, 1),
		big.NewRat(random.Int63n(1000), 1000), big.NewRat(random.Int63n(1000)-500, 100),
	}
}

// beside is p or a point that is almost there.
func beside(random *rand.Rand, p bigPoint) bigPoint {
	least := new(big.Rat).SetFrac(big.NewInt(random.Int63n(5)-2), bigOf(unit(random.Intn(12))))
	switch random.Intn(4) {
	case 0:
		return bigPoint{p.x, new(big.Rat).Add(p.y, least)}
	case 1:
		return bigPoint{new(big.Rat).Add(p.x, least), p.y}
	}
	return p
}

func isFitting(points ...bigPoint) bool {
	return !slices.ContainsFunc(points, func(p bigPoint) bool { return !impl.IsValidPoint(p.point()) })
}

// segmentPairs have coordinates of up to MaxRat limbs. Many have an end on the line of the other one, or just beside it.
func segmentPairs() [][4]bigPoint {
	random := rand.New(rand.NewSource(80))
	var l [][4]bigPoint
	for len(l) < 4000 {
		most := 1 + random.Intn([]int{1, 2, impl.MaxRat - 1}[min(2, random.Intn(5))])
		a, v := bigPointOf(randomPoint(random, max(1, min(most, impl.MaxRat-1-most)))), bigPoint{signedBigRat(random, most), signedBigRat(random, most)}
		if random.Intn(2) == 0 {
			a, v = bigPointOfVec(randomVec(random)), bigPointOf(randomPoint(random, most))
		}
		place := parts(random)
		b := a.farther(v, place[min(1, random.Intn(4))])
		c := beside(random, a.farther(v, place[random.Intn(len(place))]))
		d := beside(random, a.farther(v, place[random.Intn(len(place))]))
		switch random.Intn(3) {
		case 0:
			d = bigPointOf(randomPoint(random, most))
		case 1:
			d = c.farther(bigPoint{v.y, new(big.Rat).Neg(v.x)}, big.NewRat(random.Int63n(3)-1, 2))
		}
		if isFitting(a, b, c, d) {
			l = append(l, [4]bigPoint{a, b, c, d})
		}
	}
	return l
}

func signedBigRat(random *rand.Rand, most int) *big.Rat {
	return new(big.Rat).SetInt(signedBigOf(randomBigInt(random, most)))
}

// P15: SegmentsMeet gives what big.Rat gives, without a limit on the way.
func TestSegmentsMeetIsExact(t *testing.T) {
	type kind struct{ meet, isShort bool }
	found := map[kind]int{}
	for _, l := range segmentPairs() {
		a, b, c, d := l[0], l[1], l[2], l[3]
		want := wantedMeet(a, b, c, d)
		checkMeet(t, a.point(), b.point(), c.point(), d.point(), want)
		found[kind{want, wantedInner(a, c, c) != nil && wantedInner(a, d, b) != nil}]++
	}
	for _, k := range []kind{{true, true}, {true, false}, {false, true}, {false, false}} {
		if found[k] < 200 {
			t.Errorf("the segments are of these kinds only: %v", found)
		}
	}
}

// The products that decide have 48 limbs and more. Side has no sign for at least one of the ends.
func TestSegmentsMeetWithLongFractions(t *testing.T) {
	n, one := wholeOf(longest()), impl.RatFromInt(1)
	n1, n2 := impl.RatSub(n, one), impl.RatSub(n, impl.RatFromInt(2))
	below := func(r impl.Rat) impl.Rat { return impl.RatDiv(one, r) }
	point := func(x, y impl.Rat) impl.Point { return impl.Point{X: x, Y: y} }
	origin, steep := whole(0, 0), point(n, n1)
	cases := []struct {
		name       string
		a, b, c, d impl.Point
		want       bool
	}{
		{"across the line by 1 on both sides", origin, steep, point(n1, n2), whole(1, 1), true},
		{"by 1 on the right-hand side", origin, steep, point(n1, n2), point(n, n2), false},
		{"by 1 on the left-hand side", origin, steep, whole(1, 1), point(n1, n1), false},
		{"crossing, with fractions", point(below(n1), below(n2)), point(below(n), below(n1)), point(below(n), below(n2)), point(below(n1), below(n1)), true},
		{"beside each other, with fractions", point(below(n1), below(n2)), point(below(n), below(n1)), point(below(n), below(n2)), point(impl.RatFromInt(0), below(n1)), false},
		{"whole numbers and fractions", point(impl.RatNeg(n), below(n)), point(n, below(n)), point(below(n), impl.RatNeg(n)), point(below(n), n), true},
		{"whole numbers just below fractions", point(impl.RatNeg(n), below(n)), point(n, below(n)), point(below(n1), impl.RatNeg(n)), point(below(n1), impl.RatFromInt(0)), false},
		{"the diagonal of all numbers and a point of it", point(impl.RatNeg(n), impl.RatNeg(n)), point(n, n), point(below(n), below(n)), point(below(n), below(n)), true},
		{"and a point just beside it", point(impl.RatNeg(n), impl.RatNeg(n)), point(n, n), point(below(n), below(n1)), point(below(n), below(n1)), false},
	}
	for _, c := range cases {
		t.Run(c.name, func(t *testing.T) {
			checkMeet(t, c.a, c.b, c.c, c.d, c.want)
			if impl.Side(c.a, c.b, c.c) != 0 && impl.Side(c.a, c.b, c.d) != 0 {
				t.Error("the fractions are not too long for Side")
			}
		})
	}
}

// P2: segments that share a point meet.
func TestSegmentsThatShareAPointMeet(t *testing.T) {
	random := rand.New(rand.NewSource(81))
	for range 3000 {
		most := 1 + random.Intn(4)
		common := bigPointOf(randomPoint(random, most))
		through := func() (p, q bigPoint) {
			v := bigPointOf(randomPoint(random, most))
			ahead, back := big.NewRat(random.Int63n(4), 3), big.NewRat(-random.Int63n(4), 7)
			return common.farther(v, ahead), common.farther(v, back)
		}
		a, b := through()
		c, d := through()
		if !isFitting(a, b, c, d) {
			t.Fatalf("%v, %v, %v and %v are too long", a, b, c, d)
		}
		checkMeet(t, a.point(), b.point(), c.point(), d.point(), true)
		checkMeet(t, a.point(), b.point(), common.point(), common.point(), true)
		checkMeet(t, a.point(), b.point(), a.point(), b.point(), true)
	}
}

func checkMeeting(t *testing.T, l []impl.Vec, p, q impl.Point, want bool) {
	t.Helper()
	if got, back := impl.SegmentMeets(l, p, q), impl.SegmentMeets(l, q, p); got != want || back != want {
		t.Fatalf("SegmentMeets(%v, %s, %s) = %v, and back %v", l, impl.FormatPoint(p), impl.FormatPoint(q), got, back)
	}
}

func TestSegmentMeets(t *testing.T) {
	triangle := vecs(-1, -1, 5, 1, 1, 3)
	cases := []struct {
		name string
		l    []impl.Vec
		ends string
		want bool
	}{
		{"begins inside", smallSquare(), "1,1 9,9", true},
		{"begins just inside", smallSquare(), "1/1000000,1 -5,1", true},
		{"begins on an edge", smallSquare(), "2,1 9,1", true},
		{"begins just beyond an edge", smallSquare(), "2000001/1000000,1 9,1", false},
		{"begins at a corner", smallSquare(), "2,2 3,9", true},
		{"lies inside", smallSquare(), "1/2,1/2 3/2,1", true},
		{"lies inside, from edge to edge", smallSquare(), "0,1 1,2", true},
		{"a diagonal", smallSquare(), "0,0 2,2", true},
		{"passes through", smallSquare(), "-5,1 5,1", true},
		{"passes through a fraction of it", smallSquare(), "-1,1/2 1,-2/5", true},
		{"passes through both triangle edges", triangle, "1,-3 2,9", true},
		{"ends where an edge begins", smallSquare(), "-7,-5 0,0", true},
		{"ends short of it", smallSquare(), "-7,-5 -1/1000000,0", false},
		{"touches a corner", smallSquare(), "1,3 3,1", true},
		{"touches the first corner", smallSquare(), "-1,1 1,-1", true},
		{"passes a corner just outside", smallSquare(), "1,3000001/1000000 3,1", false},
		{"passes a corner just inside", smallSquare(), "1,2999999/1000000 3,1", true},
		{"touches the last corner of a triangle", triangle, "0,4 3,2", true},
		{"runs along an edge", smallSquare(), "0,2 2,2", true},
		{"runs along a piece of an edge", smallSquare(), "2,1/3 2,1/2", true},
		{"runs along an edge and beyond both ends", smallSquare(), "-4,0 9,0", true},
		{"runs along a slanting edge", triangle, "-4,-2 8,2", true},
		{"lies on an edge's line, ahead", smallSquare(), "3,0 5,0", false},
		{"lies on an edge's line, just behind", smallSquare(), "-3,2 -1/1000000,2", false},
		{"lies on a slanting edge's line", triangle, "8,2 11,3", false},
		{"lies on the last edge's line", triangle, "-2,-3 -3,-5", false},
		{"a point inside", smallSquare(), "1,1 1,1", true},
		{"a point on an edge", smallSquare(), "2,1/7 2,1/7", true},
		{"a point at a corner", smallSquare(), "0,2 0,2", true},
		{"a point outside", smallSquare(), "3,1 3,1", false},
		{"a point outside on an edge's line", smallSquare(), "3,2 3,2", false},
		{"a point just outside", triangle, "2,-1/1000000 2,-1/1000000", false},
		{"a point far away", smallSquare(), "-1000,1000 -1000,1000", false},
		{"outside on the left", smallSquare(), "-1,-5 -1,5", false},
		{"outside above", smallSquare(), "-9,3 9,4", false},
		{"outside, its box over the polygon", smallSquare(), "-2,1 1,-2", false},
		{"outside, and no edge of the polygon is between them", smallSquare(), "-1,4 5,1", false},
		{"away from the polygon", smallSquare(), "3,1 9,1", false},
		{"its line meets the polygon ahead", smallSquare(), "-9,1 -1,1", false},
		{"along a side of the range", largestSquare(), "-1000,-1000 1000,-1000", true},
		{"along it, beyond the range", largestSquare(), "1001,-1000 1002,-1000", false},
		{"across the range", largestSquare(), "-1001,0 1001,1", true},
		{"past the corner of the range", largestSquare(), "999,1002 1002,1000", false},
		{"at the corner of the range", largestSquare(), "999,1001 1001,999", true},
		{"far beyond the range", smallSquare(), "-9223372036854775808,1 9223372036854775807,1", true},
	}
	for _, c := range cases {
		l := pointsOf(t, c.ends)
		for k := range c.l {
			t.Run(c.name, func(t *testing.T) { checkMeeting(t, startedAt(c.l, k), l[0], l[1], c.want) })
		}
	}
}

// P15: all segments of a small grid and all polygons on it.
func TestSegmentMeetsOnAGrid(t *testing.T) {
	found := map[bool]int{}
	grid := gridOf(impl.Vec{X: -1, Y: -1}, impl.Vec{X: 3, Y: 3})
	for _, l := range gridPolygons() {
		for i, v := range grid {
			for _, w := range grid[i:] {
				want := wantedMeeting(l, bigPointOfVec(v), bigPointOfVec(w))
				checkMeeting(t, l, impl.PointOf(v), impl.PointOf(w), want)
				found[want]++
			}
		}
	}
	if found[true] < 1000 || found[false] < 1000 {
		t.Errorf("the segments are too much alike: %v", found)
	}
}

// segmentsAt are segments near a polygon: between points on the lines of its edges or near them, past its corners, and
// single points.
func segmentsAt(random *rand.Rand, l []impl.Vec) [][2]bigPoint {
	points := pointsAlong(random, l)
	points = slices.DeleteFunc(points, isZeroPoint)
	some := func() bigPoint { return bigPointOf(points[random.Intn(len(points))]) }
	var segments [][2]bigPoint
	for range 4 {
		p, corner, v := some(), bigPointOfVec(l[random.Intn(len(l))]), bigPointOfVec(randomVec(random))
		past, long := beside(random, corner), bigPointOf(randomPoint(random, impl.MaxRat))
		ends := [][2]bigPoint{
			{p, some()}, {p, p},
			{p, past.farther(p.wayTo(past), big.NewRat(random.Int63n(5), 2))},
			{past.farther(v, big.NewRat(-1, 1+random.Int63n(1000))), past.farther(v, big.NewRat(random.Int63n(9), 100))},
			{corner.farther(v, big.NewRat(1, 1000)), corner.farther(v, big.NewRat(2, 7))},
			{past.farther(long, big.NewRat(random.Int63n(3), 2)), past.farther(long, big.NewRat(-random.Int63n(3), 3))},
			{corner.farther(long, big.NewRat(1, 2)), past.farther(long, big.NewRat(1+random.Int63n(2), 5))},
		}
		for _, s := range ends {
			if isFitting(s[0], s[1]) {
				segments = append(segments, s)
			}
		}
	}
	return segments
}

// fewPolygons are as different as samplePolygons.
func fewPolygons() [][]impl.Vec {
	var l [][]impl.Vec
	for chunk := range slices.Chunk(samplePolygons(), 3) {
		l = append(l, chunk[0])
	}
	return l
}

// P15: SegmentMeets gives what big.Rat gives, without a limit on the way.
func TestSegmentMeetsIsExact(t *testing.T) {
	random := rand.New(rand.NewSource(82))
	type kind struct{ meets, isShort bool }
	found := map[kind]int{}
	for _, l := range samplePolygons() {
		for _, s := range segmentsAt(random, l) {
			want := wantedMeeting(l, s[0], s[1])
			checkMeeting(t, l, s[0].point(), s[1].point(), want)
			found[kind{want, wantedInner(s[0], s[1], s[1]) != nil}]++
		}
	}
	for _, k := range []kind{{true, true}, {true, false}, {false, true}, {false, false}} {
		if found[k] < 200 {
			t.Errorf("the segments are of these kinds only: %v", found)
		}
	}
}

// P2: a segment meets a polygon if one of its points is in it, and exactly then if it is a single point.
func TestSegmentMeetsIfAPointIsInside(t *testing.T) {
	random := rand.New(rand.NewSource(83))
	for _, l := range fewPolygons() {
		inside, other := pointIn(random, l), pointIn(random, l)
		v := bigPointOf(randomPoint(random, 1+random.Intn(3)))
		p, q := inside.farther(v, big.NewRat(random.Int63n(3), 2)), inside.farther(v, big.NewRat(-random.Int63n(3), 5))
		checkMeeting(t, l, p.point(), q.point(), true)
		checkMeeting(t, l, inside.point(), q.point(), true)
		checkMeeting(t, l, inside.point(), other.point(), true)
		checkMeeting(t, l, impl.PointOf(l[0]), q.point(), true)
		for _, m := range pointsAlong(random, l) {
			if !isZeroPoint(m) {
				checkMeeting(t, l, m, m, impl.ContainsPoint(l, m) >= 0)
			}
		}
	}
}

// P2: a segment that is not inside a polygon meets it exactly if it meets an edge.
func TestSegmentMeetsAnEdge(t *testing.T) {
	random := rand.New(rand.NewSource(84))
	for _, l := range fewPolygons() {
		for _, s := range segmentsAt(random, l) {
			p, q := s[0].point(), s[1].point()
			want := impl.ContainsPoint(l, p) > 0 && impl.ContainsPoint(l, q) > 0
			for i, corner := range l {
				want = want || impl.SegmentsMeet(impl.PointOf(corner), impl.PointOf(l[(i+1)%len(l)]), p, q)
			}
			checkMeeting(t, l, p, q, want)
		}
	}
}

func TestInnerProduct(t *testing.T) {
	cases := []struct{ points, want string }{
		{"0,0 2,1 3,-1", "5"}, {"0,0 1,0 0,1", "0"}, {"0,0 1,0 1,0", "1"}, {"0,0 3,4 -3,-4", "-25"}, {"1,1 4,5 1,1", "0"}, {"1,1 1,1 1,1", "0"},
		{"1,2 4,6 6,4", "23"}, {"4,6 1,2 6,4", "2"}, {"-1/2,1/3 1/2,1/3 1,5", "3/2"}, {"1/2,1/3 0,0 1/3,1/2", "1/36"}, {"1/2,0 0,1/5 1/3,1/7", "47/420"},
		{"-1000,-1000 1000,1000 1000,-1000", "4000000"}, {"-1000,-1000 1000,1000 1000,1000", "8000000"}, {"1000,0 -1000,0 0,1000", "2000000"},
		{"0,0 9223372036854775807,0 9223372036854775807,-9223372036854775808", "85070591730234615847396907784232501249"},
	}
	for _, c := range cases {
		l := pointsOf(t, c.points)
		if got, back := impl.FormatRat(impl.InnerProduct(l[0], l[1], l[2])), impl.FormatRat(impl.InnerProduct(l[0], l[2], l[1])); got != c.want || back != c.want {
			t.Errorf("InnerProduct of %s is %s, and exchanged %s, want %s", c.points, got, back, c.want)
		}
	}
}

// P15: what does not fit on the way makes the result the zero value.
func TestInnerProductGivesTheRightFractions(t *testing.T) {
	found := map[bool]int{}
	for _, l := range segmentPairs() {
		a, b, c := l[0], l[1], l[2]
		want := fractionOf(wantedInner(a, b, c))
		if got := impl.InnerProduct(a.point(), b.point(), c.point()); !sameRat(got, want) {
			t.Fatalf("InnerProduct(%v, %v, %v) = %v, want %v", a, b, c, got, want)
		}
		if got, want := impl.InnerProduct(a.point(), b.point(), b.point()), impl.SquareDistance(a.point(), b.point()); !sameRat(got, want) {
			t.Fatalf("the square of the distance of %v and %v is %v, and as an inner product %v", a, b, want, got)
		}
		if !isZeroRat(want) && !sameRat(want, ratOf(dot(a.wayTo(b), a.wayTo(c)))) {
			t.Fatalf("the inner product of %v, %v and %v is not exact", a, b, c)
		}
		found[isZeroRat(want)]++
	}
	if found[true] < 500 || found[false] < 500 {
		t.Errorf("the points are too much alike: %v", found)
	}
}

func TestInnerProductAtTheLimitOfLimbs(t *testing.T) {
	zero, one := impl.RatFromInt(0), impl.RatFromInt(1)
	top, lowest, smallest := wholeOf(longest()), fraction(true, longest(), []int{1}), fraction(false, []int{1}, longest())
	base11, base12 := wholeOf(unit(11)), wholeOf(unit(12))
	point := func(x, y impl.Rat) impl.Point { return impl.Point{X: x, Y: y} }
	cases := []struct {
		name    string
		a, b, c impl.Point
		want    impl.Rat
	}{
		{"a product of 24 limbs", whole(0, 0), point(base11, zero), point(base12, one), wholeOf(unit(23))},
		{"a product of 25 limbs", whole(0, 0), point(base12, zero), point(base12, one), impl.Rat{}},
		{"a product of 25 limbs along Y", whole(0, 0), point(zero, base12), point(one, base12), impl.Rat{}},
		{"products of 25 limbs whose sum would be 0", whole(0, 0), point(base12, base12), point(base12, impl.RatNeg(base12)), impl.Rat{}},
		{"the greatest fraction", whole(0, 0), point(top, zero), point(one, top), top},
		{"a sum of 25 limbs", whole(0, 0), point(top, one), point(one, one), impl.Rat{}},
		{"a sum of 24 limbs", whole(0, 0), point(top, one), point(one, impl.RatNeg(one)), impl.RatSub(top, one)},
		{"a difference of 24 limbs", whole(-1, 0), point(lowest, one), whole(0, 0), impl.RatAdd(lowest, one)},
		{"a difference of 25 limbs", whole(1, 0), point(lowest, one), whole(2, 0), impl.Rat{}},
		{"a difference of 25 limbs that would be multiplied by 0", whole(1, 0), point(lowest, one), whole(1, 7), impl.Rat{}},
		{"a difference of 25 limbs along Y", whole(0, 1), point(one, lowest), whole(1, 1), impl.Rat{}},
		{"a denominator of 24 limbs", whole(0, 0), point(smallest, zero), whole(1, 1), smallest},
		{"a denominator of 25 limbs", whole(0, 0), point(smallest, zero), point(impl.RatOf(1, 2), one), impl.Rat{}},
	}
	for _, c := range cases {
		if got, back := impl.InnerProduct(c.a, c.b, c.c), impl.InnerProduct(c.a, c.c, c.b); !sameRat(got, c.want) || !sameRat(back, c.want) {
			t.Errorf("%s: %v, and exchanged %v, want %v", c.name, got, back, c.want)
		}
	}
}

func TestSquareToSegment(t *testing.T) {
	cases := []struct{ name, points, want string }{
		{"between the ends", "0,3 -1,0 1,0", "9"},
		{"between the ends, at a fraction", "0,0 1,0 0,1", "1/2"},
		{"between the ends of a slanting one", "1,3 0,0 3,1", "32/5"},
		{"the first end", "-4,3 -1,0 1,0", "18"},
		{"the second end", "5,3 -1,0 1,0", "25"},
		{"the first end, behind on the line", "-3,-3 -1,-1 1,1", "8"},
		{"the second end, ahead on the line", "2,2 -1,-1 1,1", "2"},
		{"a quotient of exactly 0", "0,7 0,0 5,0", "49"},
		{"a quotient of exactly 0 on a slanting one", "-1,2 0,0 2,1", "5"},
		{"a quotient of exactly 1", "5,7 0,0 5,0", "49"},
		{"a quotient of exactly 1 on a slanting one", "1,3 0,0 2,1", "5"},
		{"a quotient just greater than 0", "1/100,7 0,0 5,0", "49"},
		{"a quotient just less than 0", "-1/100,7 0,0 5,0", "490001/10000"},
		{"a quotient just greater than 1", "501/100,7 0,0 5,0", "490001/10000"},
		{"a quotient just less than 1", "499/100,7 0,0 5,0", "49"},
		{"on the segment", "1,2 0,0 2,4", "0"},
		{"at an end", "2,4 0,0 2,4", "0"},
		{"at the first end", "0,0 0,0 2,4", "0"},
		{"equal ends", "3,4 0,0 0,0", "25"},
		{"equal ends at the point", "1/3,4 1/3,4 1/3,4", "0"},
		{"equal ends and fractions", "1/2,0 0,1/3 0,1/3", "13/36"},
		{"fractions", "1/2,1/3 0,0 1,0", "1/9"},
		{"vertical", "7,1/2 3,0 3,1", "16"},
		{"the ends of the range", "1000,-1000 -1000,-1000 1000,1000", "2000000"},
		{"the farthest ends of the range", "-1000,1000 1000,-1000 1000,-1000", "8000000"},
		{"beyond the range", "0,12345678901234567890 -1,0 1,0", "152415787532388367501905199875019052100"},
	}
	for _, c := range cases {
		l := pointsOf(t, c.points)
		if got, back := impl.FormatRat(impl.SquareToSegment(l[0], l[1], l[2])), impl.FormatRat(impl.SquareToSegment(l[0], l[2], l[1])); got != c.want || back != c.want {
			t.Errorf("%s: %s, and with the ends exchanged %s, want %s", c.name, got, back, c.want)
		}
	}
}

func TestSquareToSegmentOnAGrid(t *testing.T) {
	grid := gridOf(impl.Vec{X: -1}, impl.Vec{X: 3, Y: 3})
	for _, p := range grid {
		for _, a := range grid {
			for _, b := range grid {
				want := ratOf(exactToSegment(bigPointOfVec(p), bigPointOfVec(a), bigPointOfVec(b)))
				if got := impl.SquareToSegment(impl.PointOf(p), impl.PointOf(a), impl.PointOf(b)); !sameRat(got, want) {
					t.Fatalf("SquareToSegment(%v, %v, %v) = %v, want %v", p, a, b, got, want)
				}
			}
		}
	}
}

func kindOf(square *big.Rat) string {
	switch {
	case square == nil:
		return "too long"
	case square.Sign() == 0:
		return "0"
	}
	return "positive"
}

// P15: a distance is exact, or the zero value if a fraction on the way is too long.
func TestSquareToSegmentGivesTheRightFractions(t *testing.T) {
	found := map[string]int{}
	for _, l := range segmentPairs() {
		a, b := l[0], l[1]
		for _, p := range []bigPoint{l[2], l[3], a, b} {
			square := wantedToSegment(p, a, b)
			if got, want := impl.SquareToSegment(p.point(), a.point(), b.point()), fractionOf(square); !sameRat(got, want) {
				t.Fatalf("SquareToSegment(%v, %v, %v) = %v, want %v", p, a, b, got, want)
			}
			if square != nil && square.Cmp(exactToSegment(p, a, b)) != 0 {
				t.Fatalf("the square of the distance of %v from %v to %v is %v", p, a, b, square)
			}
			found[kindOf(square)]++
		}
	}
	if found["too long"] < 1000 || found["0"] < 1000 || found["positive"] < 1000 {
		t.Errorf("the points are too much alike: %v", found)
	}
}

// Every fraction that the document names must fit: the inner product, the square of the length, their quotient, even
// if the nearest point is an end, the nearest point, and the square of the distance.
func TestSquareToSegmentAtTheLimitOfLimbs(t *testing.T) {
	zero, one := impl.RatFromInt(0), impl.RatFromInt(1)
	top, base11, base12 := wholeOf(longest()), wholeOf(unit(11)), wholeOf(unit(12))
	point := func(x, y impl.Rat) impl.Point { return impl.Point{X: x, Y: y} }
	// These have 6 limbs each and, in pairs, no common divisor: a square of a distance may have such denominators.
	under := func(k int) impl.Rat {
		return fraction(false, []int{1}, append([]int{limbTop - k}, repeated(limbTop, 5)...))
	}
	near, behind := point(under(0), under(1)), point(impl.RatNeg(under(2)), impl.RatNeg(under(4)))
	cases := []struct {
		name    string
		p, a, b impl.Point
		want    impl.Rat
	}{
		{"a square of 23 limbs", point(zero, base11), whole(0, 0), whole(1, 0), wholeOf(unit(22))},
		{"a square of 25 limbs", point(zero, base12), whole(0, 0), whole(1, 0), impl.Rat{}},
		{"a length of 23 limbs", whole(0, 3), whole(0, 0), point(base11, zero), impl.RatFromInt(9)},
		{"a length of 25 limbs", whole(0, 3), whole(0, 0), point(base12, zero), impl.Rat{}},
		{"a length of 25 limbs, and the point is an end", whole(0, 0), whole(0, 0), point(base12, zero), impl.Rat{}},
		{"a distance of 23 limbs with equal ends", point(base11, zero), whole(0, 0), whole(0, 0), wholeOf(unit(22))},
		{"a distance of 25 limbs with equal ends", point(base12, zero), whole(0, 0), whole(0, 0), impl.Rat{}},
		{"equal ends of 24 limbs", point(top, one), point(top, zero), point(top, zero), one},
		{"equal ends that are the point", point(top, top), point(top, top), point(top, top), zero},
		{"a difference of 25 limbs", point(top, one), whole(-1, 0), whole(1, 0), impl.Rat{}},
		{"ends of 24 limbs that are near each other", point(top, one), point(top, zero), point(impl.RatSub(top, one), zero), one},
		{"a quotient that is too long, behind the first end", behind, whole(0, 0), near, impl.Rat{}},
		{"a quotient that is too long, ahead of the second end", behind, near, whole(0, 0), impl.Rat{}},
		{"the first end as the only one", behind, whole(0, 0), whole(0, 0), impl.SquareDistance(behind, whole(0, 0))},
		{"a nearest point that is too long", whole(0, 1), point(under(0), zero), point(impl.RatAdd(under(0), under(1)), wholeOf(unit(6))), impl.Rat{}},
	}
	for _, c := range cases {
		if got, model := impl.SquareToSegment(c.p, c.a, c.b), fractionOf(wantedToSegment(bigPointOf(c.p), bigPointOf(c.a), bigPointOf(c.b))); !sameRat(got, c.want) || !sameRat(model, c.want) {
			t.Errorf("%s: %v, want %v", c.name, got, c.want)
		}
	}
	for _, valid := range []impl.Rat{impl.InnerProduct(whole(0, 0), behind, near), impl.SquareDistance(near, whole(0, 0)), impl.SquareDistance(behind, whole(0, 0))} {
		if !impl.RatOk(valid) {
			t.Error("not only the quotient is too long")
		}
	}
}

// smallPoint has fractions that are short enough for all distances.
func smallPoint(random *rand.Rand) impl.Point {
	coord := func() impl.Rat { return impl.RatOf(random.Intn(100001)-50000, 1+random.Intn(1000)) }
	return impl.Point{X: coord(), Y: coord()}
}

// P2: no point of a segment is nearer than the distance, and one of them is as near. It does not depend on the order of
// the ends.
func TestSquareToSegmentIsTheLeastDistance(t *testing.T) {
	random := rand.New(rand.NewSource(85))
	for range 1500 {
		p, a, b := smallPoint(random), smallPoint(random), smallPoint(random)
		square := impl.SquareToSegment(p, a, b)
		if !impl.RatOk(square) || !impl.RatEqual(square, impl.SquareToSegment(p, b, a)) {
			t.Fatalf("SquareToSegment(%v, %v, %v) = %v", p, a, b, square)
		}
		from, v := bigPointOf(a), bigPointOf(a).wayTo(bigPointOf(b))
		for i := range int64(11) {
			m := from.farther(v, big.NewRat(i, 10)).point()
			if apart := impl.SquareDistance(p, m); !impl.RatOk(apart) || impl.RatCmp(square, apart) > 0 {
				t.Fatalf("%v is farther from %v to %v than from a point of it", p, a, b)
			}
			if got := impl.SquareToSegment(m, a, b); !impl.RatOk(got) || impl.RatSign(got) != 0 || !impl.SegmentsMeet(a, b, m, m) {
				t.Fatalf("%v is not on the segment from %v to %v", m, a, b)
			}
		}
	}
}

func TestSquareToPolygon(t *testing.T) {
	square, triangle := vecs(-1, -1, 1, -1, 1, 1, -1, 1), vecs(0, 0, 4, 0, 0, 4)
	cases := []struct {
		name    string
		l       []impl.Vec
		p, want string
	}{
		{"nearest to an edge", square, "4,0", "9"},
		{"nearest to the first edge", square, "1/3,-3", "4"},
		{"nearest to the last edge", square, "-5/2,-1/2", "9/4"},
		{"nearest to a slanting edge", triangle, "3,3", "2"},
		{"nearest to a slanting edge, at a fraction", triangle, "3,2", "1/2"},
		{"nearest to a corner", square, "4,5", "25"},
		{"nearest to the first corner", square, "-2,-3/2", "5/4"},
		{"nearest to a corner of a triangle", triangle, "9,1", "26"},
		{"nearest to a corner, straight ahead of an edge", square, "3,1", "4"},
		{"inside", square, "1/2,-1/3", "0"},
		{"in the middle", square, "0,0", "0"},
		{"just inside", square, "999999/1000000,0", "0"},
		{"on an edge", square, "1,1/7", "0"},
		{"on a slanting edge", triangle, "1/2,7/2", "0"},
		{"at a corner", square, "-1,1", "0"},
		{"just outside", square, "1000001/1000000,0", "1/1000000000000"},
		{"far away", square, "-1000,1000", "1996002"},
		{"at the corner of the range", largestSquare(), "1000,1000", "0"},
		{"on a side of the range", largestSquare(), "-1000,1/3", "0"},
		{"beyond a side of the range", largestSquare(), "-1000,1003", "9"},
		{"beyond a corner of the range", largestSquare(), "-1003,1004", "25"},
		{"far beyond the range", square, "9223372036854775808,0", "85070591730234615847396907784232501249"},
	}
	for _, c := range cases {
		p := pointsOf(t, c.p)[0]
		for k := range c.l {
			if got := impl.FormatRat(impl.SquareToPolygon(startedAt(c.l, k), p)); got != c.want {
				t.Errorf("%s: %s, want %s", c.name, got, c.want)
			}
		}
	}
}

func TestSquareBetween(t *testing.T) {
	square, triangle := vecs(-1, -1, 1, -1, 1, 1, -1, 1), vecs(0, 0, 4, 0, 0, 4)
	cases := []struct {
		name       string
		l          []impl.Vec
		ends, want string
	}{
		{"a corner, from the middle of the segment", square, "3,0 0,3", "1/2"},
		{"a corner of a triangle", triangle, "5,-2 5,3", "1"},
		{"an edge that is parallel", square, "3,-5 3,5", "4"},
		{"a piece of an edge that is parallel", square, "3,1/2 3,1/3", "4"},
		{"an end, from an edge", square, "4,0 9,1", "9"},
		{"the other end, from an edge", square, "5,-9 3/2,1/5", "1/4"},
		{"an end, from a slanting edge", triangle, "3,3 5,9", "2"},
		{"an end and a corner", square, "4,5 9,9", "25"},
		{"the other end and a corner", square, "-9,7 -3,2", "5"},
		{"an end on the line of an edge, and a corner", square, "3,1 5,1", "4"},
		{"a single point and an edge", square, "4,0 4,0", "9"},
		{"a single point and a corner", square, "4,5 4,5", "25"},
		{"an end inside", square, "0,0 9,9", "0"},
		{"the other end inside", square, "-7,5 1/3,1/2", "0"},
		{"through it", square, "-7,1/2 8,1/3", "0"},
		{"inside it", square, "-1/2,1/2 1/3,1/3", "0"},
		{"at a corner", square, "0,2 2,0", "0"},
		{"along an edge", triangle, "5,-1 -1,5", "0"},
		{"along a piece of an edge", square, "1,0 1,1/2", "0"},
		{"an end at a corner", square, "1,1 2,7", "0"},
		{"a single point inside", square, "1/2,1/2 1/2,1/2", "0"},
		{"a single point on an edge", square, "1,1/2 1,1/2", "0"},
		{"just outside of a corner", square, "0,2000001/1000000 2000001/1000000,0", "1/2000000000000"},
		{"at the corner of the range", largestSquare(), "1000,1000 2000,2000", "0"},
		{"beyond a side of the range", largestSquare(), "-1002,-1000 -1002,1000", "4"},
		{"beyond a corner of the range", largestSquare(), "999,1003 1003,999", "2"},
		{"from one corner of the range to another", vecs(999, 999, 1000, 999, 1000, 1000), "-1000,-1000 -1000,1000", "3996001"},
	}
	for _, c := range cases {
		l := pointsOf(t, c.ends)
		for k := range c.l {
			polygon := startedAt(c.l, k)
			if got, back := impl.FormatRat(impl.SquareBetween(polygon, l[0], l[1])), impl.FormatRat(impl.SquareBetween(polygon, l[1], l[0])); got != c.want || back != c.want {
				t.Errorf("%s: %s, and back %s, want %s", c.name, got, back, c.want)
			}
		}
	}
}

// P15: all segments and points of a small grid and many polygons on it.
func TestDistancesOnAGrid(t *testing.T) {
	grid := gridOf(impl.Vec{X: -1, Y: -1}, impl.Vec{X: 3, Y: 3})
	for k, l := range gridPolygons() {
		for i, v := range grid {
			p := bigPointOfVec(v)
			if got, want := impl.SquareToPolygon(l, p.point()), ratOf(exactBetween(l, p, p)); !sameRat(got, want) {
				t.Fatalf("SquareToPolygon(%v, %v) = %v, want %v", l, v, got, want)
			}
			for j, w := range grid {
				if (i+j+k)%5 != 0 {
					continue
				}
				q := bigPointOfVec(w)
				if got, want := impl.SquareBetween(l, p.point(), q.point()), ratOf(exactBetween(l, p, q)); !sameRat(got, want) {
					t.Fatalf("SquareBetween(%v, %v, %v) = %v, want %v", l, v, w, got, want)
				}
			}
		}
	}
}

// P15: a distance from a polygon is exact, or the zero value if a fraction on the way is too long.
func TestDistancesGiveTheRightFractions(t *testing.T) {
	random := rand.New(rand.NewSource(86))
	found := map[string]int{}
	for i, l := range fewPolygons() {
		segments := segmentsAt(random, l)
		for k := range min(len(segments), 8) {
			p, q := segments[(k+8*i)%len(segments)][0], segments[(k+8*i)%len(segments)][1]
			toPolygon, between := wantedToPolygon(l, p), wantedBetween(l, p, q)
			if got, want := impl.SquareToPolygon(l, p.point()), fractionOf(toPolygon); !sameRat(got, want) {
				t.Fatalf("SquareToPolygon(%v, %v) = %v, want %v", l, p, got, want)
			}
			if got, want := impl.SquareBetween(l, p.point(), q.point()), fractionOf(between); !sameRat(got, want) {
				t.Fatalf("SquareBetween(%v, %v, %v) = %v, want %v", l, p, q, got, want)
			}
			if toPolygon != nil && toPolygon.Cmp(exactBetween(l, p, p)) != 0 || between != nil && between.Cmp(exactBetween(l, p, q)) != 0 {
				t.Fatalf("the squares of the distances of %v and of %v to %v from %v are %v and %v", p, p, q, l, toPolygon, between)
			}
			found[kindOf(between)]++
		}
	}
	if found["too long"] < 200 || found["0"] < 200 || found["positive"] < 200 {
		t.Errorf("the segments are too much alike: %v", found)
	}
}

// If the distance of one edge or corner is too long, there is none, however near another one is.
func TestDistancesAtTheLimitOfLimbs(t *testing.T) {
	triangle := vecs(0, 0, 1, 0, 0, 1)
	zero, top := impl.RatFromInt(0), wholeOf(longest())
	over11, over12 := fraction(false, []int{1}, unit(11)), fraction(false, []int{1}, unit(12))
	point := func(x, y impl.Rat) impl.Point { return impl.Point{X: x, Y: y} }
	below := func(r impl.Rat) impl.Point { return point(zero, impl.RatNeg(r)) }
	cases := []struct {
		name             string
		l                []impl.Vec
		p, q             impl.Point
		toPolygon, among impl.Rat
	}{
		{"a square of 23 limbs", triangle, below(over11), below(over11), impl.RatMul(over11, over11), impl.RatMul(over11, over11)},
		{"a square of 25 limbs", triangle, below(over12), below(over12), impl.Rat{}, impl.Rat{}},
		{"a point inside, and a segment that meets", triangle, point(over12, over12), point(top, over12), zero, zero},
		{"a point that is too far away, and a segment that meets", triangle, point(over12, top), point(over12, impl.RatNeg(top)), impl.Rat{}, zero},
		{"an end that is too far away", triangle, whole(0, -1), point(top, impl.RatFromInt(-1)), impl.RatFromInt(1), impl.Rat{}},
		{"the first end that is too far away", triangle, point(top, impl.RatFromInt(-1)), whole(0, -1), impl.Rat{}, impl.Rat{}},
	}
	for _, c := range cases {
		for k := range c.l {
			l := startedAt(c.l, k)
			if got := impl.SquareToPolygon(l, c.p); !sameRat(got, c.toPolygon) {
				t.Errorf("%s: SquareToPolygon is %v, want %v", c.name, got, c.toPolygon)
			}
			if got := impl.SquareBetween(l, c.p, c.q); !sameRat(got, c.among) {
				t.Errorf("%s: SquareBetween is %v, want %v", c.name, got, c.among)
			}
		}
	}
}

// P2: the distance of a segment from a polygon is at most that of its points, and it is 0 exactly if they meet.
func TestDistanceOfASegmentIsThatOfItsPoints(t *testing.T) {
	random := rand.New(rand.NewSource(87))
	found := map[bool]int{}
	for _, l := range fewPolygons() {
		inside := pointIn(random, l).point()
		for range 3 {
			a, b := smallPoint(random), smallPoint(random)
			if random.Intn(2) == 0 {
				a, b = impl.PointOf(randomVec(random)), impl.PointOf(randomVec(random))
			}
			square, meets := impl.SquareBetween(l, a, b), impl.SegmentMeets(l, a, b)
			if !impl.RatOk(square) || (impl.RatSign(square) == 0) != meets || impl.RatSign(square) < 0 {
				t.Fatalf("SquareBetween(%v, %v, %v) = %v, and SegmentMeets is %v", l, a, b, square, meets)
			}
			if !impl.RatEqual(square, impl.SquareBetween(l, b, a)) || impl.RatCmp(square, impl.SquareToSegment(inside, a, b)) > 0 {
				t.Fatalf("SquareBetween(%v, %v, %v) = %v, and it is greater back or from a point inside", l, a, b, square)
			}
			from, v := bigPointOf(a), bigPointOf(a).wayTo(bigPointOf(b))
			for i := range int64(7) {
				checkDistanceOf(t, l, from.farther(v, big.NewRat(i, 6)).point(), inside, square)
			}
			found[meets]++
		}
	}
	if found[true] < 100 || found[false] < 100 {
		t.Errorf("the segments are too much alike: %v", found)
	}
}

func checkDistanceOf(t *testing.T, l []impl.Vec, p, inside impl.Point, least impl.Rat) {
	t.Helper()
	square := impl.SquareToPolygon(l, p)
	if !impl.RatOk(square) || impl.RatCmp(least, square) > 0 {
		t.Fatalf("%v is nearer to %v than the segment on which it is", p, l)
	}
	if (impl.RatSign(square) == 0) != (impl.ContainsPoint(l, p) >= 0) || impl.RatSign(square) < 0 {
		t.Fatalf("the square of the distance of %v from %v is %v", p, l, square)
	}
	if !impl.RatEqual(square, impl.SquareBetween(l, p, p)) {
		t.Fatalf("the distance of %v from %v is another one for the segment that is this point", p, l)
	}
	if impl.RatCmp(square, impl.SquareDistance(p, inside)) > 0 {
		t.Fatalf("%v is farther from %v than from %v inside", p, l, inside)
	}
}

type segmentResult struct {
	name   string
	square impl.Rat
	meets  bool
}

// segmentResults are the results of all functions of segments.
func segmentResults(l []impl.Vec, p, q, r, s impl.Point) []segmentResult {
	return []segmentResult{
		{name: "SegmentsMeet", meets: impl.SegmentsMeet(p, q, r, s)},
		{name: "SegmentMeets", meets: impl.SegmentMeets(l, p, q)},
		{name: "InnerProduct", square: impl.InnerProduct(p, q, r)},
		{name: "SquareToSegment", square: impl.SquareToSegment(p, q, r)},
		{name: "SquareToPolygon", square: impl.SquareToPolygon(l, p)},
		{name: "SquareBetween", square: impl.SquareBetween(l, p, q)},
	}
}

func TestSegmentFunctionsRefuseWhatIsNoPoint(t *testing.T) {
	o, p, q := whole(0, 0), whole(1, 1), impl.Point{X: impl.RatOf(1, 2), Y: impl.RatOf(5, 3)}
	for _, bad := range badPoints() {
		for _, l := range [][4]impl.Point{{bad, o, p, q}, {o, bad, p, q}, {o, p, bad, q}, {o, o, p, bad}, {bad, bad, o, p}, {o, p, bad, bad}, {bad, bad, bad, bad}, {o, o, bad, bad}} {
			if impl.SegmentsMeet(l[0], l[1], l[2], l[3]) {
				t.Errorf("SegmentsMeet of %v is true", l)
			}
		}
		for _, l := range [][3]impl.Point{{bad, p, q}, {p, bad, q}, {p, q, bad}, {p, bad, bad}, {bad, p, p}, {bad, bad, p}, {bad, p, bad}, {bad, bad, bad}} {
			if got := impl.InnerProduct(l[0], l[1], l[2]); !isZeroRat(got) {
				t.Errorf("InnerProduct of %v is %v", l, got)
			}
			if got := impl.SquareToSegment(l[0], l[1], l[2]); !isZeroRat(got) {
				t.Errorf("SquareToSegment of %v is %v", l, got)
			}
		}
		for _, l := range [][]impl.Vec{smallSquare(), largestSquare(), vecs(5, 5, 6, 5, 5, 6)} {
			for _, ends := range [][2]impl.Point{{bad, p}, {p, bad}, {bad, bad}} {
				if got := impl.SquareBetween(l, ends[0], ends[1]); !isZeroRat(got) || impl.SegmentMeets(l, ends[0], ends[1]) {
					t.Errorf("SquareBetween(%v, %v) = %v, or SegmentMeets is true", l, ends, got)
				}
			}
			if got := impl.SquareToPolygon(l, bad); !isZeroRat(got) {
				t.Errorf("SquareToPolygon(%v, %v) = %v", l, bad, got)
			}
		}
	}
}

func TestSegmentFunctionsRefuseWhatIsNoPolygon(t *testing.T) {
	ends := [][2]impl.Point{{whole(0, 0), whole(0, 0)}, {whole(1, 1), whole(-9, 7)}, {whole(-5, 1), whole(5, 1)}, {whole(900, 900), whole(901, 900)}, {{X: impl.RatOf(1, 2), Y: impl.RatOf(1, 2)}, {}}, {{}, {}}}
	for name, lists := range badPolygons() {
		for _, l := range lists {
			for _, s := range ends {
				if impl.SegmentMeets(l, s[0], s[1]) {
					t.Errorf("%s: SegmentMeets(%v, %v) is true", name, l, s)
				}
				if got := impl.SquareBetween(l, s[0], s[1]); !isZeroRat(got) {
					t.Errorf("%s: SquareBetween(%v, %v) = %v", name, l, s, got)
				}
				if got := impl.SquareToPolygon(l, s[0]); !isZeroRat(got) {
					t.Errorf("%s: SquareToPolygon(%v, %v) = %v", name, l, s[0], got)
				}
			}
		}
	}
}

// segmentSamples are four points each, of all sizes and kinds, and what is no point.
func segmentSamples() [][4]impl.Point {
	var l [][4]impl.Point
	for i, pair := range pointPairs() {
		if i%3 == 0 {
			l = append(l, [4]impl.Point{pair[0], pair[1], pair[1], pair[0]}, [4]impl.Point{whole(-1, 1), pair[0], pair[1], whole(1, 0)})
		}
	}
	for i, four := range segmentPairs() {
		if i%10 == 0 {
			l = append(l, [4]impl.Point{four[0].point(), four[1].point(), four[2].point(), four[3].point()})
		}
	}
	return l
}

func TestSegmentFunctionsLeaveTheirArgumentsAlone(t *testing.T) {
	lists := [][]impl.Vec{smallSquare(), vecs(5, 5, 6, 5, 5, 6), ring(), reversed(pentagon()), bowl(17), nil, vecs(0, 0, 1001, 0, 0, 1)}
	for i, four := range segmentSamples() {
		vecRow, polygon := framedVecs(lists[i%len(lists)])
		wasVecs := slices.Clone(vecRow)
		var rows, was [][]int
		points := four
		for k, p := range four {
			var pointRows [][]int
			pointRows, points[k] = framedPoint(p)
			rows = append(rows, pointRows...)
		}
		for _, row := range rows {
			was = append(was, slices.Clone(row))
		}
		for _, result := range segmentResults(polygon, points[0], points[1], points[2], points[3]) {
			overwriteRat(result.square)
			if !slices.EqualFunc(rows, was, slices.Equal[[]int]) || !slices.Equal(vecRow, wasVecs) {
				t.Fatalf("%s of %v and %v, or a write to its result, changed an argument", result.name, lists[i%len(lists)], four)
			}
		}
	}
}

// All points, both coordinates, and even the numerator and the denominator may be one slice.
func TestSegmentArgumentsMayBeTheSameSlice(t *testing.T) {
	for _, part := range [][]int{{1}, {7}, unit(5), longest()} {
		row, mag := framed(part)
		was := slices.Clone(row)
		r, s := fraction(true, mag, []int{1}), fraction(false, []int{1}, mag)
		for _, p := range []impl.Point{{X: r, Y: r}, {X: r, Y: s}, {X: s, Y: s}, {X: fraction(false, mag, mag), Y: r}} {
			for _, q := range []impl.Point{p, {X: p.Y, Y: p.X}} {
				for _, l := range [][4]impl.Point{{p, q, p, q}, {p, p, p, p}, {p, q, q, q}, {q, p, p, q}} {
					for _, result := range segmentResults(smallSquare(), l[0], l[1], l[2], l[3]) {
						overwriteRat(result.square)
						if !slices.Equal(row, was) {
							t.Fatalf("%s of %v changed them", result.name, l)
						}
					}
				}
			}
		}
	}
}

// Neither a result of before nor the two slices of one result share memory with a result.
func TestSegmentResultsAreNewEachTime(t *testing.T) {
	squares := func(four [4]impl.Point) map[string]impl.Rat {
		m := map[string]impl.Rat{}
		for _, result := range segmentResults(smallSquare(), four[0], four[1], four[2], four[3]) {
			m[result.name] = result.square
		}
		return m
	}
	for _, four := range segmentSamples() {
		want := map[string]impl.Rat{}
		for name, square := range squares(four) {
			want[name] = fraction(square.Num.Neg, slices.Clone(square.Num.Mag), slices.Clone(square.Den))
			overwrite(square.Num.Mag)
			if !slices.Equal(square.Den, want[name].Den) {
				t.Fatalf("the numerator and the denominator of %s of %v share memory", name, four)
			}
			overwrite(square.Den)
		}
		if got := squares(four); !maps.EqualFunc(got, want, sameRat) {
			t.Fatalf("the results for %v are %v after the last ones were changed, want %v", four, got, want)
		}
	}
}
