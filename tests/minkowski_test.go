package tests

import (
	"maps"
	"math/big"
	"math/rand"
	"slices"
	"testing"

	"loop.example/g00811/impl"
)

func plus(v, w impl.Vec) impl.Vec { return impl.Vec{X: v.X + w.X, Y: v.Y + w.Y} }

func times(v impl.Vec, n int) impl.Vec { return impl.Vec{X: v.X * n, Y: v.Y * n} }

func movedBy(l []impl.Vec, v impl.Vec) []impl.Vec {
	var moved []impl.Vec
	for _, corner := range l {
		moved = append(moved, plus(corner, v))
	}
	return moved
}

func stretched(l []impl.Vec, n int) []impl.Vec {
	var m []impl.Vec
	for _, corner := range l {
		m = append(m, times(corner, n))
	}
	return m
}

// compareDirections puts edges in the order in which a polygon has them, from its first corner from the left on.
func compareDirections(v, w impl.Vec) int {
	goesBack := func(v impl.Vec) bool { return v.X < 0 || v.X == 0 && v.Y < 0 }
	switch {
	case goesBack(v) == goesBack(w):
		return -span(impl.Vec{}, v, w)
	case goesBack(v):
		return 1
	}
	return -1
}

// mergedSum needs no hull: a sum has the edges of both polygons, and those with the same direction are one edge.
func mergedSum(a, b []impl.Vec) []impl.Vec {
	var edges []impl.Vec
	for _, l := range [][]impl.Vec{a, b} {
		for i, corner := range l {
			edges = append(edges, plus(l[(i+1)%len(l)], times(corner, -1)))
		}
	}
	slices.SortFunc(edges, compareDirections)
	var sum []impl.Vec
	at := plus(leftmost(a), leftmost(b))
	for i, edge := range edges {
		if i == 0 || compareDirections(edges[i-1], edge) != 0 {
			sum = append(sum, at)
		}
		at = plus(at, edge)
	}
	return sum
}

// wantedSum is what SumPolygons returns for two polygons.
func wantedSum(a, b []impl.Vec) []impl.Vec {
	sum := mergedSum(a, b)
	if len(a)*len(b) > 64 || len(sum) > 16 || !areInRange(sum) {
		return nil
	}
	return sum
}

func isAround(l []impl.Vec, p impl.Vec) bool {
	for i, corner := range l {
		if span(corner, l[(i+1)%len(l)], p) < 0 {
			return false
		}
	}
	return true
}

func rangesMeet(a, b, c, d int) bool { return max(min(a, b), min(c, d)) <= min(max(a, b), max(c, d)) }

func edgesMeet(a, b, c, d impl.Vec) bool {
	return span(a, b, c)*span(a, b, d) <= 0 && span(c, d, a)*span(c, d, b) <= 0 && rangesMeet(a.X, b.X, c.X, d.X) && rangesMeet(a.Y, b.Y, c.Y, d.Y)
}

// wantedTouch uses that the edges of two polygons with a common point have one, unless one polygon is inside the other.
func wantedTouch(a, b []impl.Vec) bool {
	for i, p := range a {
		for j, q := range b {
			if edgesMeet(p, a[(i+1)%len(a)], q, b[(j+1)%len(b)]) {
				return true
			}
		}
	}
	return isAround(a, b[0]) || isAround(b, a[0])
}

// farthestLeft is the greatest span of the edge i of a and a corner of b.
func farthestLeft(a, b []impl.Vec, i int) int {
	most := span(a[i], a[(i+1)%len(a)], b[0])
	for _, p := range b {
		most = max(most, span(a[i], a[(i+1)%len(a)], p))
	}
	return most
}

// wantedSeparating is the first edge of a for which all corners of b are farther to the right than least.
func wantedSeparating(a, b []impl.Vec, least int) int {
	for i := range a {
		if farthestLeft(a, b, i) < least {
			return i
		}
	}
	return -1
}

// wantedDepth is -1 if two polygons are apart, 0 if only their boundaries touch, and 1 if they have common inner points.
func wantedDepth(a, b []impl.Vec) int {
	if !wantedTouch(a, b) {
		return -1
	}
	if wantedSeparating(a, b, 1) >= 0 || wantedSeparating(b, a, 1) >= 0 {
		return 0
	}
	return 1
}

// polygonsOn are all polygons with their corners among at most 9 points, each once.
func polygonsOn(points []impl.Vec) [][]impl.Vec {
	var l [][]impl.Vec
	for set := range 1 << len(points) {
		var chosen []impl.Vec
		for i, p := range points {
			if set>>i&1 == 1 {
				chosen = append(chosen, p)
			}
		}
		if hull := wantedHull(chosen); len(hull) >= 3 && len(hull) == len(chosen) {
			l = append(l, hull)
		}
	}
	return l
}

// gridPolygons are few enough to look at all pairs of them.
func gridPolygons() [][]impl.Vec { return polygonsOn(gridOf(impl.Vec{}, impl.Vec{X: 2, Y: 2})) }

func octagon() []impl.Vec { return vecs(0, 0, 4, 1, 6, 4, 5, 8, 2, 10, -2, 9, -4, 6, -3, 2) }

func otherOctagon() []impl.Vec { return vecs(0, 0, 7, 3, 9, 7, 8, 13, 3, 20, -4, 17, -6, 13, -5, 7) }

// cornersLike has the directions of all edges of l, and of n - len(l) other ones.
func cornersLike(l []impl.Vec, n int) []impl.Vec { return mergedSum(l, bowlOf(n-len(l))) }

// bowlOf has n corners. No edge of it has the direction of an edge of the polygons to which it is added here.
func bowlOf(n int) []impl.Vec {
	l := bowl(n)
	for i, v := range l {
		l[i] = impl.Vec{X: 7*v.X - v.Y, Y: 11*v.Y + 3*v.X}
	}
	return wantedHull(l)
}

// pairsOfPolygons have each sample with itself, with the next one, which is often alike, and with some of any size.
func pairsOfPolygons() [][2][]impl.Vec {
	polygons := samplePolygons()
	random := rand.New(rand.NewSource(70))
	var l [][2][]impl.Vec
	for i, a := range polygons {
		l = append(l, [2][]impl.Vec{a, a}, [2][]impl.Vec{a, polygons[(i+1)%len(polygons)]})
		for range 8 {
			l = append(l, [2][]impl.Vec{a, polygons[random.Intn(len(polygons))]})
		}
	}
	return l
}

func TestSumPolygons(t *testing.T) {
	triangle, half := vecs(0, 0, 1, 0, 0, 1), vecs(-500, -500, 500, -500, 500, 500, -500, 500)
	cases := []struct {
		name       string
		a, b, want []impl.Vec
	}{
		{"a square and itself", smallSquare(), smallSquare(), vecs(0, 0, 4, 0, 4, 4, 0, 4)},
		{"a triangle and itself", triangle, triangle, vecs(0, 0, 2, 0, 0, 2)},
		{"a triangle and its negative", triangle, vecs(0, 0, -1, 0, 0, -1), vecs(-1, 0, 0, -1, 1, -1, 1, 0, 0, 1, -1, 1)},
		{"a square and its negative", smallSquare(), vecs(-2, -2, 0, -2, 0, 0, -2, 0), vecs(-2, -2, 2, -2, 2, 2, -2, 2)},
		{"two edges parallel", smallSquare(), triangle, vecs(0, 0, 3, 0, 3, 2, 2, 3, 0, 3)},
		{"no edge parallel", smallSquare(), vecs(0, -1, 1, 0, 0, 1, -1, 0), vecs(-1, 0, 0, -1, 2, -1, 3, 0, 3, 2, 2, 3, 0, 3, -1, 2)},
		{"apart from each other", vecs(10, 20, 11, 20, 10, 21), vecs(-100, 3, -98, 3, -98, 5, -100, 5), vecs(-90, 23, -87, 23, -87, 25, -88, 26, -90, 26)},
		{"corners in another order", vecs(0, 1, 0, 0, 1, 0), vecs(2, 2, 0, 2, 0, 0, 2, 0), vecs(0, 0, 3, 0, 3, 2, 2, 3, 0, 3)},
		{"corners at all ends of the range", half, half, largestSquare()},
		{"a corner at the right end", vecs(0, 0, 1000, 0, 0, 1), vecs(-1, 0, 0, 0, -1, 1), vecs(-1, 0, 1000, 0, 999, 1, -1, 2)},
		{"one beyond the right end", vecs(0, 0, 1000, 0, 0, 1), triangle, nil},
		{"one beyond the left end", vecs(-1000, 0, 0, 0, 0, 1), vecs(-1, 0, 0, 0, 0, 1), nil},
		{"one beyond the upper end", vecs(0, 0, 1, 0, 0, 1000), triangle, nil},
		{"one beyond the lower end", vecs(0, -1000, 1, 0, 0, 0), vecs(0, -1, 1, 0, 0, 0), nil},
		{"the largest square and a triangle", largestSquare(), triangle, nil},
		{"far beyond the range", largestSquare(), largestSquare(), nil},
	}
	for _, c := range cases {
		if got := impl.SumPolygons(c.a, c.b); !slices.Equal(got, c.want) {
			t.Errorf("%s: %v, want %v", c.name, got, c.want)
		}
		if got := impl.SumPolygons(c.b, c.a); !slices.Equal(got, c.want) {
			t.Errorf("%s, the other way round: %v, want %v", c.name, got, c.want)
		}
	}
}

// The pairs of corners and the corners of the sum are counted apart: 65 pairs are too many for a sum of 13 corners, and
// 17 corners are too many for 42 pairs.
func TestSumPolygonsAtTheLimitOfCorners(t *testing.T) {
	cases := []struct {
		name           string
		a, b           []impl.Vec
		pairs, corners int
		ok             bool
	}{
		{"64 pairs with 8 corners", octagon(), octagon(), 64, 8, true},
		{"64 pairs with 16 corners", octagon(), otherOctagon(), 64, 16, true},
		{"64 pairs, a square", ring(), smallSquare(), 64, 16, true},
		{"63 pairs with 16 corners", bowlOf(9), heptagon(), 63, 16, true},
		{"60 pairs with 12 corners", cornersLike(pentagon(), 12), pentagon(), 60, 12, true},
		{"39 pairs with 16 corners", bowlOf(13), vecs(0, 0, 1, 0, 0, 1), 39, 16, true},
		{"48 pairs with 16 corners", bowlOf(12), smallSquare(), 48, 16, true},
		{"65 pairs with 13 corners", cornersLike(pentagon(), 13), pentagon(), 65, 13, false},
		{"72 pairs with 10 corners", bowlOf(9), bowlOf(8), 72, 10, false},
		{"81 pairs with 9 corners", bowlOf(9), bowlOf(9), 81, 9, false},
		{"256 pairs with 16 corners", ring(), ring(), 256, 16, false},
		{"42 pairs with 17 corners", bowlOf(14), vecs(0, 0, 1, 0, 0, 1), 42, 17, false},
		{"52 pairs with 17 corners", bowlOf(13), smallSquare(), 52, 17, false},
		{"52 pairs with 13 corners", cornersLike(smallSquare(), 13), smallSquare(), 52, 13, true},
		{"48 pairs with 19 corners", ring(), vecs(0, 0, 7, 1, 2, 7), 48, 19, false},
	}
	for _, c := range cases {
		sum := mergedSum(c.a, c.b)
		if len(c.a)*len(c.b) != c.pairs || len(sum) != c.corners || !areInRange(sum) {
			t.Fatalf("%s: there are %d pairs, and the sum is %v", c.name, len(c.a)*len(c.b), sum)
		}
		if !c.ok {
			sum = nil
		}
		for k := range c.a {
			if got := impl.SumPolygons(startedAt(c.a, k), c.b); !slices.Equal(got, sum) {
				t.Errorf("%s: %v, want %v", c.name, got, sum)
			}
			if got := impl.SumPolygons(c.b, startedAt(c.a, k)); !slices.Equal(got, sum) {
				t.Errorf("%s, the other way round: %v, want %v", c.name, got, sum)
			}
		}
	}
}

// P3: a sum does not depend on the order of the polygons, and has the edges of both.
func TestSumHasTheEdgesOfBoth(t *testing.T) {
	found := map[bool]int{}
	check := func(a, b []impl.Vec) {
		want := wantedSum(a, b)
		if got := impl.SumPolygons(a, b); !slices.Equal(got, want) {
			t.Fatalf("SumPolygons(%v, %v) = %v, want %v", a, b, got, want)
		}
		if got := impl.SumPolygons(b, a); !slices.Equal(got, want) {
			t.Fatalf("SumPolygons(%v, %v) = %v, want %v", b, a, got, want)
		}
		found[len(want) > 0]++
	}
	for _, a := range gridPolygons() {
		for _, b := range gridPolygons() {
			check(a, b)
		}
	}
	for _, pair := range pairsOfPolygons() {
		check(pair[0], pair[1])
	}
	if found[true] < 1000 || found[false] < 1000 {
		t.Errorf("the pairs are too much alike: %v", found)
	}
}

// pointIn is a corner of a polygon, a point on one of its edges, or one inside.
func pointIn(random *rand.Rand, l []impl.Vec) bigPoint {
	corners := startedAt(l, random.Intn(len(l)))[:[]int{1, 2, len(l)}[random.Intn(3)]]
	var x, y, whole int64
	for _, corner := range corners {
		weight := 1 + random.Int63n(50)
		x, y, whole = x+weight*int64(corner.X), y+weight*int64(corner.Y), whole+weight
	}
	return bigPoint{big.NewRat(x, whole), big.NewRat(y, whole)}
}

// P3: a sum contains the sums of the points of both polygons, and its corners are such sums.
func TestSumContainsTheSumsOfPoints(t *testing.T) {
	random := rand.New(rand.NewSource(71))
	places := map[int]int{}
	for _, pair := range pairsOfPolygons() {
		a, b := pair[0], pair[1]
		sum := impl.SumPolygons(a, b)
		if len(sum) == 0 {
			continue
		}
		for range 3 {
			p, q := pointIn(random, a), pointIn(random, b)
			both := bigPoint{new(big.Rat).Add(p.x, q.x), new(big.Rat).Add(p.y, q.y)}
			place := impl.ContainsPoint(sum, both.point())
			if inner := max(wantedPlace(a, p), wantedPlace(b, q)); place < inner {
				t.Fatalf("the place of %v is %d in the sum of %v and %v", both, place, a, b)
			}
			places[place]++
		}
		checkCornersAreSums(t, sum, a, b)
	}
	if places[0] < 100 || places[1] < 1000 {
		t.Errorf("the sums of points have these places only: %v", places)
	}
}

func checkCornersAreSums(t *testing.T, sum, a, b []impl.Vec) {
	t.Helper()
	var sums []impl.Vec
	for _, v := range a {
		sums = append(sums, movedBy(b, v)...)
	}
	for _, corner := range sum {
		if !slices.Contains(sums, corner) {
			t.Fatalf("%v is no sum of corners of %v and %v", corner, a, b)
		}
	}
	for _, v := range sums {
		if impl.ContainsPoint(sum, impl.PointOf(v)) < 0 {
			t.Fatalf("%v is outside of the sum of %v and %v", v, a, b)
		}
	}
}

func TestObstacleFor(t *testing.T) {
	robot := vecs(0, 0, 3, 0, 0, 1)
	cases := []struct {
		name                  string
		robot, obstacle, want []impl.Vec
	}{
		{"squares", vecs(-1, -1, 1, -1, 1, 1, -1, 1), vecs(2, -1, 4, -1, 4, 1, 2, 1), vecs(1, -2, 5, -2, 5, 2, 1, 2)},
		{"a triangle and a square", robot, smallSquare(), vecs(-3, 0, 0, -1, 2, -1, 2, 2, -3, 2)},
		{"a square and a triangle", smallSquare(), robot, vecs(-2, -2, 3, -2, 3, 0, 0, 1, -2, 1)},
		{"an obstacle that is the robot", robot, robot, vecs(-3, 0, 0, -1, 3, -1, 3, 0, 0, 1, -3, 1)},
		{"a robot that is far from its origin", movedBy(robot, impl.Vec{X: 100, Y: -50}), smallSquare(), vecs(-103, 50, -100, 49, -98, 49, -98, 52, -103, 52)},
		{"the left and lower end of the range", smallSquare(), vecs(-998, -998, -996, -998, -996, -996, -998, -996), vecs(-1000, -1000, -996, -1000, -996, -996, -1000, -996)},
		{"one beyond the left end", smallSquare(), vecs(-999, -998, -996, -998, -996, -996, -999, -996), nil},
		{"one beyond the lower end", smallSquare(), vecs(-998, -999, -996, -999, -996, -996, -998, -996), nil},
		{"a robot that brings the obstacle back", vecs(998, 998, 1000, 998, 1000, 1000, 998, 1000), vecs(998, 998, 1000, 998, 1000, 1000, 998, 1000), vecs(-2, -2, 2, -2, 2, 2, -2, 2)},
		{"a robot that is too far away", vecs(-1000, -1000, -998, -1000, -998, -998, -1000, -998), smallSquare(), nil},
		{"64 pairs", octagon(), stretched(otherOctagon(), -1), mergedSum(stretched(octagon(), -1), stretched(otherOctagon(), -1))},
		{"more pairs", octagon(), bowlOf(9), nil},
		{"17 corners", stretched(bowlOf(14), -1), vecs(0, 0, 1, 0, 0, 1), nil},
	}
	for _, c := range cases {
		if got := impl.ObstacleFor(c.robot, c.obstacle); !slices.Equal(got, c.want) {
			t.Errorf("%s: %v, want %v", c.name, got, c.want)
		}
	}
	for _, pair := range pairsOfPolygons() {
		if got, want := impl.ObstacleFor(pair[0], pair[1]), wantedSum(pair[1], stretched(pair[0], -1)); !slices.Equal(got, want) {
			t.Errorf("ObstacleFor(%v, %v) = %v, want %v", pair[0], pair[1], got, want)
		}
	}
}

func TestOriginInTheBlockedArea(t *testing.T) {
	robot, obstacle := vecs(0, 0, 3, 0, 0, 1), smallSquare()
	blocked := impl.ObstacleFor(robot, obstacle)
	cases := []struct {
		name   string
		origin impl.Vec
		want   int
	}{
		{"inside", impl.Vec{X: -1, Y: 1}, 1},
		{"inside, near a corner", impl.Vec{X: 1, Y: 1}, 1},
		{"on the edge on the right", impl.Vec{X: 2, Y: 1}, 0},
		{"on the lower edge", impl.Vec{X: 1, Y: -1}, 0},
		{"on the left edge", impl.Vec{X: -3, Y: 1}, 0},
		{"at the upper right corner", impl.Vec{X: 2, Y: 2}, 0},
		{"at the leftmost corner", impl.Vec{X: -3}, 0},
		{"at the lowest corner", impl.Vec{Y: -1}, 0},
		{"just outside on the right", impl.Vec{X: 3, Y: 1}, -1},
		{"just outside above", impl.Vec{X: -1, Y: 3}, -1},
		{"just outside below", impl.Vec{X: 1, Y: -2}, -1},
		{"just outside beyond the slanting edge", impl.Vec{X: -1, Y: -1}, -1},
		{"just outside beyond a corner", impl.Vec{X: 3, Y: 3}, -1},
		{"far away", impl.Vec{X: -900, Y: 900}, -1},
	}
	for _, c := range cases {
		if got := impl.ContainsPoint(blocked, impl.PointOf(c.origin)); got != c.want {
			t.Errorf("%s: the place of the origin is %d", c.name, got)
		}
		moved := movedBy(robot, c.origin)
		if got := impl.Touches(moved, obstacle); got != (c.want >= 0) || wantedDepth(moved, obstacle) != c.want {
			t.Errorf("%s: Touches is %v", c.name, got)
		}
	}
}

// checkBlocked compares the robot at an origin with the place of the origin in the blocked area.
func checkBlocked(t *testing.T, robot, obstacle, blocked []impl.Vec, origin impl.Vec) int {
	t.Helper()
	moved := movedBy(robot, origin)
	depth := wantedDepth(moved, obstacle)
	if got := impl.ContainsPoint(blocked, impl.PointOf(origin)); got != depth {
		t.Fatalf("the place of %v is %d in the blocked area of %v and %v, want %d", origin, got, robot, obstacle, depth)
	}
	if impl.Touches(moved, obstacle) != (depth >= 0) || impl.Touches(obstacle, moved) != (depth >= 0) {
		t.Fatalf("Touches is wrong for %v at %v and %v, want %v", robot, origin, obstacle, depth >= 0)
	}
	return depth
}

func checkDepths(t *testing.T, depths map[int]int) {
	t.Helper()
	if depths[-1] < 1000 || depths[0] < 1000 || depths[1] < 1000 {
		t.Errorf("the origins have these places only: %v", depths)
	}
}

// P3: the robot touches an obstacle exactly if its origin lies in the blocked area, for all of a small grid.
func TestRobotTouchesExactlyFromTheBlockedArea(t *testing.T) {
	depths := map[int]int{}
	for _, robot := range polygonsOn(gridOf(impl.Vec{X: -1}, impl.Vec{Y: 2})) {
		for _, obstacle := range gridPolygons() {
			blocked := impl.ObstacleFor(robot, obstacle)
			for _, origin := range gridOf(impl.Vec{X: -1, Y: -3}, impl.Vec{X: 4, Y: 3}) {
				depths[checkBlocked(t, robot, obstacle, blocked, origin)]++
			}
		}
	}
	checkDepths(t, depths)
}

// P3, where the polygons are larger: the origin is at a corner of the blocked area, near one, between two, or anywhere.
func TestRobotTouchesExactlyFromLargeBlockedAreas(t *testing.T) {
	random := rand.New(rand.NewSource(72))
	depths := map[int]int{}
	for _, pair := range pairsOfPolygons() {
		robot, obstacle := pair[0], pair[1]
		blocked := impl.ObstacleFor(robot, obstacle)
		for i, corner := range blocked {
			next := blocked[(i+1)%len(blocked)]
			middle := impl.Vec{X: (corner.X + next.X) / 2, Y: (corner.Y + next.Y) / 2}
			for _, origin := range append(randomVecs(random, 2, 2), corner, plus(corner, randomVecs(random, 1, 1)[0]), middle, randomVec(random)) {
				if areInRange(movedBy(robot, origin)) {
					depths[checkBlocked(t, robot, obstacle, blocked, origin)]++
				}
			}
		}
	}
	checkDepths(t, depths)
}

// P3, where the origin has fractions: everything is stretched until it has none.
func TestRobotTouchesExactlyFromAFraction(t *testing.T) {
	random := rand.New(rand.NewSource(73))
	depths := map[int]int{}
	polygons := append(gridPolygons(), octagon(), pentagon(), vecs(0, 0, 8, 7, 9, 8))
	for range 4000 {
		robot, obstacle := polygons[random.Intn(len(polygons))], polygons[random.Intn(len(polygons))]
		blocked := impl.ObstacleFor(robot, obstacle)
		i, n := random.Intn(len(blocked)), 2+random.Intn(12)
		k := random.Intn(n + 1)
		onEdge := plus(times(blocked[i], n-k), times(blocked[(i+1)%len(blocked)], k))
		for _, by := range gridOf(impl.Vec{X: -1, Y: -1}, impl.Vec{X: 1, Y: 1}) {
			origin := plus(onEdge, by)
			p := impl.Point{X: impl.RatOf(origin.X, n), Y: impl.RatOf(origin.Y, n)}
			moved, large := movedBy(stretched(robot, n), origin), stretched(obstacle, n)
			depth := wantedDepth(moved, large)
			if got := impl.ContainsPoint(blocked, p); got != depth || impl.Touches(moved, large) != (depth >= 0) {
				t.Fatalf("the place of %s is %d in the blocked area of %v and %v, want %d", impl.FormatPoint(p), got, robot, obstacle, depth)
			}
			depths[depth]++
		}
	}
	checkDepths(t, depths)
}

// longTriangle is above the line from one corner of the range to the other one but for 1.
func longTriangle() []impl.Vec { return vecs(-1000, -1000, 1000, 999, -1000, 1000) }

func TestTouches(t *testing.T) {
	triangle := vecs(0, 0, 4, 0, 0, 4)
	cases := []struct {
		name string
		a, b []impl.Vec
		want bool
	}{
		{"the same polygon twice", pentagon(), pentagon(), true},
		{"the same polygon, started at another corner", pentagon(), startedAt(pentagon(), 2), true},
		{"a common corner", smallSquare(), vecs(2, 2, 4, 2, 4, 4, 2, 4), true},
		{"a common corner of triangles", triangle, vecs(4, 0, 9, -3, 9, 1), true},
		{"a common edge", smallSquare(), vecs(2, 0, 4, 0, 4, 2, 2, 2), true},
		{"a common piece of an edge", smallSquare(), vecs(2, 1, 4, 1, 4, 5, 2, 5), true},
		{"a common piece of a slanting edge", triangle, vecs(3, 1, 6, 1, 1, 6, 1, 3), true},
		{"a corner on the other's edge", smallSquare(), vecs(2, 1, 4, 0, 4, 2), true},
		{"a corner on a slanting edge", triangle, vecs(2, 2, 5, 3, 3, 5), true},
		{"one inside the other", largestSquare(), pentagon(), true},
		{"one inside the other, with a common corner", smallSquare(), vecs(0, 0, 1, 0, 0, 1), true},
		{"a corner inside the other", smallSquare(), vecs(1, 1, 5, 1, 5, 5), true},
		{"a cross", vecs(0, 1, 3, 1, 3, 2, 0, 2), vecs(1, 0, 2, 0, 2, 3, 1, 3), true},
		{"a corner on the longest edge", longTriangle(), vecs(1000, -1000, 1000, 1000, 1000-1, -1000), true},
		{"1 apart", smallSquare(), vecs(3, 0, 4, 0, 4, 2, 3, 2), false},
		{"1 apart at corners", smallSquare(), vecs(3, 3, 4, 3, 4, 4, 3, 4), false},
		{"1 apart, one above the other", smallSquare(), vecs(0, 3, 2, 3, 2, 5, 0, 5), false},
		{"apart by the smallest distance", longTriangle(), vecs(999, 998, 999, -1000, 1000, -1000), false},
		{"a corner on the line of an edge, ahead of it", smallSquare(), vecs(3, 0, 4, 1, 3, 2), false},
		{"an edge on the line of an edge, ahead of it", smallSquare(), vecs(3, 0, 5, 0, 5, 2, 3, 2), false},
		{"apart, though their ranges meet", triangle, vecs(3, 2, 5, 4, 2, 4), false},
		{"apart, and only an edge of one separates", triangle, vecs(3, 2, 5, 2, 5, 4, 3, 4), false},
		{"as far apart as possible", vecs(-1000, -1000, -999, -1000, -1000, -999), vecs(1000, 1000, 999, 1000, 1000, 999), false},
	}
	for _, c := range cases {
		if wantedTouch(c.a, c.b) != c.want {
			t.Fatalf("%s: the case is wrong", c.name)
		}
		for k := range c.a {
			for m := range c.b {
				a, b := startedAt(c.a, k), startedAt(c.b, m)
				if impl.Touches(a, b) != c.want || impl.Touches(b, a) != c.want {
					t.Errorf("%s: Touches(%v, %v) is not %v both ways", c.name, a, b, c.want)
				}
			}
		}
	}
}

func TestSeparatingEdge(t *testing.T) {
	triangle, block := vecs(0, 0, 4, 0, 0, 4), vecs(3, 2, 5, 2, 5, 4, 3, 4)
	cases := []struct {
		name string
		a, b []impl.Vec
		want int
	}{
		{"the first edge", smallSquare(), vecs(0, -3, 2, -3, 2, -1, 0, -1), 0},
		{"the second edge", smallSquare(), vecs(3, 0, 5, 0, 5, 2, 3, 2), 1},
		{"the third edge", smallSquare(), vecs(0, 3, 2, 3, 2, 5, 0, 5), 2},
		{"the edge from the last corner", smallSquare(), vecs(-3, 0, -1, 0, -1, 2, -3, 2), 3},
		{"the first of two edges", smallSquare(), vecs(3, 3, 5, 3, 5, 5, 3, 5), 1},
		{"the first of two edges, the last one too", smallSquare(), vecs(-3, -3, -1, -3, -1, -1, -3, -1), 0},
		{"the first of two edges, from another corner on", startedAt(smallSquare(), 2), vecs(3, 3, 5, 3, 5, 5, 3, 5), 0},
		{"the first of many edges", startedAt(ring(), 9), vecs(900, 900, 901, 900, 900, 901), 0},
		{"a corner on the line of the first one", smallSquare(), vecs(2, 5, 4, 5, 4, 7), 2},
		{"an edge on the line of the first one", smallSquare(), vecs(2, 5, 4, 5, 4, 7, 2, 7), 2},
		{"corners on the lines of two edges, and none separates", smallSquare(), vecs(2, 3, 3, 2, 4, 4), -1},
		{"an edge of the other polygon separates", vecs(2, 3, 3, 2, 4, 4), smallSquare(), 0},
		{"only an edge of the first polygon", triangle, block, 1},
		{"only an edge of the second polygon", block, triangle, -1},
		{"only an edge of the second polygon, from another corner on", startedAt(block, 1), startedAt(triangle, 2), -1},
		{"apart by the smallest distance", longTriangle(), vecs(999, 998, 999, -1000, 1000, -1000), 0},
		{"a common corner", smallSquare(), vecs(2, 2, 4, 2, 4, 4, 2, 4), -1},
		{"a common piece of an edge", smallSquare(), vecs(2, 1, 4, 1, 4, 5, 2, 5), -1},
		{"a corner on the other's edge", smallSquare(), vecs(2, 1, 4, 0, 4, 2), -1},
		{"the other one inside", largestSquare(), pentagon(), -1},
		{"inside the other one", pentagon(), largestSquare(), -1},
		{"the same polygon twice", pentagon(), pentagon(), -1},
	}
	for _, c := range cases {
		for m := range c.b {
			if got := impl.SeparatingEdge(c.a, startedAt(c.b, m)); got != c.want {
				t.Errorf("%s: %d, want %d", c.name, got, c.want)
			}
		}
	}
}

// P15: both functions on polygons of all sizes, of which many touch and many are just apart.
func TestTouchesAndSeparatingEdgeAgree(t *testing.T) {
	random := rand.New(rand.NewSource(74))
	found := map[[3]bool]int{}
	for _, pair := range pairsOfPolygons() {
		a := pair[0]
		for _, v := range append(randomVecs(random, 4, 30), impl.Vec{}, plus(leftmost(a), times(leftmost(pair[1]), -1))) {
			b := movedBy(pair[1], v)
			if !areInRange(b) {
				continue
			}
			touches := wantedTouch(a, b)
			first, second := wantedSeparating(a, b, 0), wantedSeparating(b, a, 0)
			if got, back := impl.SeparatingEdge(a, b), impl.SeparatingEdge(b, a); got != first || back != second {
				t.Fatalf("SeparatingEdge of %v and %v is %d, and %d back, want %d and %d", a, b, got, back, first, second)
			}
			if impl.Touches(a, b) != touches || impl.Touches(b, a) != touches || touches != (first < 0 && second < 0) {
				t.Fatalf("Touches(%v, %v) is %v, want %v", a, b, impl.Touches(a, b), touches)
			}
			found[[3]bool{touches, first >= 0, second >= 0}]++
		}
	}
	for _, kind := range [][3]bool{{true, false, false}, {false, true, false}, {false, false, true}, {false, true, true}} {
		if found[kind] < 50 {
			t.Errorf("the pairs are of these kinds only: %v", found)
		}
	}
}

func TestWidthOf(t *testing.T) {
	cases := []struct {
		l         []impl.Vec
		low, high impl.Vec
	}{
		{smallSquare(), impl.Vec{}, impl.Vec{X: 2, Y: 2}},
		{pentagon(), impl.Vec{X: -10, Y: -10}, impl.Vec{X: 10, Y: 8}},
		{largestSquare(), impl.Vec{X: -1000, Y: -1000}, impl.Vec{X: 1000, Y: 1000}},
		{vecs(5, 7, 9, 8, 6, 20), impl.Vec{X: 5, Y: 7}, impl.Vec{X: 9, Y: 20}},
		{vecs(-5, -7, -6, -20, -4, -19), impl.Vec{X: -6, Y: -20}, impl.Vec{X: -4, Y: -7}},
		{vecs(0, 0, 999, 998, 1000, 999), impl.Vec{}, impl.Vec{X: 1000, Y: 999}},
	}
	for _, c := range cases {
		for k := range c.l {
			if low, high, ok := impl.WidthOf(startedAt(c.l, k)); low != c.low || high != c.high || !ok {
				t.Errorf("WidthOf(%v) = %v, %v, %v", startedAt(c.l, k), low, high, ok)
			}
		}
	}
	for _, l := range samplePolygons() {
		low, high := wantedWidth(l)
		if gotLow, gotHigh, ok := impl.WidthOf(l); gotLow != low || gotHigh != high || !ok {
			t.Errorf("WidthOf(%v) = %v, %v, %v", l, gotLow, gotHigh, ok)
		}
	}
}

func wantedWidth(l []impl.Vec) (low, high impl.Vec) {
	var xs, ys []int
	for _, corner := range l {
		xs, ys = append(xs, corner.X), append(ys, corner.Y)
	}
	return impl.Vec{X: slices.Min(xs), Y: slices.Min(ys)}, impl.Vec{X: slices.Max(xs), Y: slices.Max(ys)}
}

func TestMoveToOrigin(t *testing.T) {
	cases := []struct {
		name    string
		l, want []impl.Vec
	}{
		{"already there", smallSquare(), smallSquare()},
		{"already there, with no corner at 0", vecs(2, 0, 4, 2, 2, 4, 0, 2), vecs(2, 0, 4, 2, 2, 4, 0, 2)},
		{"from the right", vecs(5, 7, 9, 8, 6, 20), vecs(0, 0, 4, 1, 1, 13)},
		{"from negative coordinates", pentagon(), vecs(10, 0, 20, 7, 16, 18, 4, 18, 0, 7)},
		{"from one negative coordinate", vecs(-3, 0, 1, 0, 0, 5), vecs(0, 0, 4, 0, 3, 5)},
		{"only upward", vecs(0, -3, 1, 0, 0, 5), vecs(0, 0, 1, 3, 0, 8)},
		{"from the right and upper end", vecs(1000, 1000, 999, 1000, 1000, 999), vecs(1, 1, 0, 1, 1, 0)},
		{"from the left and lower end", vecs(-1000, -1000, 0, -1000, 0, 0, -1000, 0), vecs(0, 0, 1000, 0, 1000, 1000, 0, 1000)},
		{"to the ends of the range", vecs(-500, -300, 500, -300, 500, 700, -500, 700), vecs(0, 0, 1000, 0, 1000, 1000, 0, 1000)},
		{"one too wide", vecs(-501, -300, 500, -300, 500, 700, -501, 700), nil},
		{"one too high", vecs(-500, -301, 500, -301, 500, 700, -500, 700), nil},
		{"the largest square", largestSquare(), nil},
	}
	for _, c := range cases {
		for k := range c.l {
			var want []impl.Vec
			if len(c.want) > 0 {
				want = startedAt(c.want, k)
			}
			if got := impl.MoveToOrigin(startedAt(c.l, k)); !slices.Equal(got, want) {
				t.Errorf("%s: %v, want %v", c.name, got, want)
			}
		}
	}
}

func TestMovedToOriginIsTheSamePolygonAt0(t *testing.T) {
	found := map[bool]int{}
	for _, l := range samplePolygons() {
		low, high := wantedWidth(l)
		isIn := high.X-low.X <= impl.MaxCoord && high.Y-low.Y <= impl.MaxCoord
		moved := impl.MoveToOrigin(l)
		found[isIn]++
		if !isIn {
			if len(moved) != 0 {
				t.Errorf("MoveToOrigin(%v) = %v", l, moved)
			}
			continue
		}
		if least, _, ok := impl.WidthOf(moved); least != (impl.Vec{}) || !ok || !slices.Equal(movedBy(moved, low), l) {
			t.Errorf("MoveToOrigin(%v) = %v", l, moved)
		}
		if again := impl.MoveToOrigin(moved); !slices.Equal(again, moved) {
			t.Errorf("MoveToOrigin(%v) = %v", moved, again)
		}
	}
	if found[true] < 50 || found[false] < 50 {
		t.Errorf("the polygons are too much alike: %v", found)
	}
}

// refusePolygons checks a pair of which at least one is no polygon.
func refusePolygons(t *testing.T, name string, a, b []impl.Vec) {
	t.Helper()
	if got := impl.SumPolygons(a, b); len(got) != 0 {
		t.Errorf("%s: SumPolygons(%v, %v) = %v", name, a, b, got)
	}
	if got := impl.ObstacleFor(a, b); len(got) != 0 {
		t.Errorf("%s: ObstacleFor(%v, %v) = %v", name, a, b, got)
	}
	if impl.Touches(a, b) {
		t.Errorf("%s: Touches(%v, %v) is true", name, a, b)
	}
	if got := impl.SeparatingEdge(a, b); got != -1 {
		t.Errorf("%s: SeparatingEdge(%v, %v) = %d", name, a, b, got)
	}
}

func TestSumsRefuseWhatIsNoPolygon(t *testing.T) {
	farAway := vecs(-700, -800, -699, -800, -700, -799)
	for name, lists := range badPolygons() {
		for _, bad := range lists {
			for _, good := range [][]impl.Vec{smallSquare(), largestSquare(), farAway} {
				refusePolygons(t, name, bad, good)
				refusePolygons(t, name, good, bad)
			}
			for _, other := range [][]impl.Vec{bad, nil, reversed(smallSquare())} {
				refusePolygons(t, name, bad, other)
				refusePolygons(t, name, other, bad)
			}
			if low, high, ok := impl.WidthOf(bad); low != (impl.Vec{}) || high != (impl.Vec{}) || ok {
				t.Errorf("%s: WidthOf(%v) = %v, %v, %v", name, bad, low, high, ok)
			}
			if got := impl.MoveToOrigin(bad); len(got) != 0 {
				t.Errorf("%s: MoveToOrigin(%v) = %v", name, bad, got)
			}
		}
	}
}

// sumResults are the results of all functions of sums that return a polygon.
func sumResults(a, b []impl.Vec) map[string][]impl.Vec {
	impl.Touches(a, b)
	impl.SeparatingEdge(a, b)
	impl.WidthOf(a)
	return map[string][]impl.Vec{"SumPolygons": impl.SumPolygons(a, b), "ObstacleFor": impl.ObstacleFor(a, b), "MoveToOrigin": impl.MoveToOrigin(a)}
}

// listPairs are pairs of polygons and of lists that are none.
func listPairs() [][2][]impl.Vec {
	lists := sampleLists()
	pairs := [][2][]impl.Vec{{ring(), smallSquare()}, {octagon(), otherOctagon()}, {bowl(16), bowl(4)}, {smallSquare(), smallSquare()}}
	for i, a := range lists {
		for _, b := range [][]impl.Vec{a, smallSquare(), lists[(i+1)%len(lists)]} {
			pairs = append(pairs, [2][]impl.Vec{a, b}, [2][]impl.Vec{b, a})
		}
	}
	return pairs
}

func TestSumFunctionsLeaveTheirArgumentsAlone(t *testing.T) {
	for _, pair := range listPairs() {
		row, inside := framedVecs(pair[0])
		otherRow, other := framedVecs(pair[1])
		wasRow, wasOther := slices.Clone(row), slices.Clone(otherRow)
		for _, b := range [][]impl.Vec{other, inside} {
			for name, result := range sumResults(inside, b) {
				overwriteVecs(result)
				if !slices.Equal(row, wasRow) || !slices.Equal(otherRow, wasOther) {
					t.Fatalf("%s of %v and %v, or a write to its result, changed an argument", name, inside, b)
				}
			}
		}
	}
}

func TestSumResultsAreNewEachTime(t *testing.T) {
	for _, pair := range listPairs() {
		want := map[string][]impl.Vec{}
		for name, result := range sumResults(pair[0], pair[1]) {
			want[name] = slices.Clone(result)
			overwriteVecs(result)
		}
		if got := sumResults(pair[0], pair[1]); !maps.EqualFunc(got, want, slices.Equal[[]impl.Vec]) {
			t.Fatalf("the results for %v are %v after the last ones were changed, want %v", pair, got, want)
		}
	}
}
