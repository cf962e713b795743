package tests

import (
	"math"
	"math/big"
	"math/rand"
	"slices"
	"strconv"
	"strings"
	"testing"

	"loop.example/g00811/impl"
)

func vecs(coords ...int) []impl.Vec {
	var l []impl.Vec
	for pair := range slices.Chunk(coords, 2) {
		l = append(l, impl.Vec{X: pair[0], Y: pair[1]})
	}
	return l
}

// span is twice the area of a triangle, counted without the package.
func span(a, b, c impl.Vec) int {
	return a.X*b.Y - a.Y*b.X + b.X*c.Y - b.Y*c.X + c.X*a.Y - c.Y*a.X
}

func squareApart(a, b impl.Vec) int {
	return (a.X-b.X)*(a.X-b.X) + (a.Y-b.Y)*(a.Y-b.Y)
}

func isBefore(a, b impl.Vec) bool {
	return a.X < b.X || a.X == b.X && a.Y < b.Y
}

func leftmost(l []impl.Vec) impl.Vec {
	first := l[0]
	for _, p := range l {
		if isBefore(p, first) {
			first = p
		}
	}
	return first
}

// wantedHull wraps a string round the points: the next corner has all other points to the left, and none behind it.
func wantedHull(l []impl.Vec) []impl.Vec {
	if len(l) == 0 {
		return nil
	}
	first := leftmost(l)
	hull := []impl.Vec{first}
	for at := first; ; {
		next := at
		for _, p := range l {
			side := span(at, next, p)
			if p != at && (next == at || side < 0 || side == 0 && squareApart(at, p) > squareApart(at, next)) {
				next = p
			}
		}
		if next == first {
			return hull
		}
		hull, at = append(hull, next), next
	}
}

func isShift(l, m []impl.Vec) bool {
	for k := range l {
		if slices.Equal(startedAt(l, k), m) {
			return true
		}
	}
	return len(l) == 0 && len(m) == 0
}

func isInRange(v impl.Vec) bool {
	return -1000 <= v.X && v.X <= 1000 && -1000 <= v.Y && v.Y <= 1000
}

func areInRange(l []impl.Vec) bool {
	return !slices.ContainsFunc(l, func(v impl.Vec) bool { return !isInRange(v) })
}

// wantedPolygon uses that the corners of a polygon, and no other list, are those of their hull in its order.
func wantedPolygon(l []impl.Vec) bool {
	return len(l) >= 3 && len(l) <= 16 && areInRange(l) && isShift(l, wantedHull(l))
}

// wantedPlace is what ContainsPoint returns for a polygon, counted with fractions of any length.
func wantedPlace(l []impl.Vec, p bigPoint) int {
	place := 1
	for i, a := range l {
		b := l[(i+1)%len(l)]
		x, y := along(p.x, 1, -a.X), along(p.y, 1, -a.Y)
		place = min(place, along(y, b.X-a.X, 0).Cmp(along(x, b.Y-a.Y, 0)))
	}
	return place
}

// along is factor * q + n.
func along(q *big.Rat, factor, n int) *big.Rat {
	product := new(big.Rat).Mul(q, big.NewRat(int64(factor), 1))
	return product.Add(product, big.NewRat(int64(n), 1))
}

// bowl has n corners of a parabola: no three of them are on a line, and 64 are still in the range.
func bowl(n int) []impl.Vec {
	var l []impl.Vec
	for i := range n {
		k := i - (n-1)/2
		l = append(l, impl.Vec{X: k, Y: k * (k - 1) / 2})
	}
	return l
}

// ring has 16 corners, and each of its quarters looks like the one before it.
func ring() []impl.Vec {
	at, edges := impl.Vec{X: -1, Y: -5}, vecs(2, 0, 2, 1, 1, 1, 1, 2)
	var l []impl.Vec
	for range 4 {
		for i, edge := range edges {
			l = append(l, at)
			at = impl.Vec{X: at.X + edge.X, Y: at.Y + edge.Y}
			edges[i] = impl.Vec{X: -edge.Y, Y: edge.X}
		}
	}
	return l
}

// star takes every step-th corner, so that it winds round step times.
func star(l []impl.Vec, step int) []impl.Vec {
	var corners []impl.Vec
	for i := range l {
		corners = append(corners, l[i*step%len(l)])
	}
	return corners
}

func reversed(l []impl.Vec) []impl.Vec {
	m := slices.Clone(l)
	slices.Reverse(m)
	return m
}

func startedAt(l []impl.Vec, k int) []impl.Vec {
	return slices.Concat(l[k:], l[:k])
}

func smallSquare() []impl.Vec { return vecs(0, 0, 2, 0, 2, 2, 0, 2) }

func largestSquare() []impl.Vec { return vecs(-1000, -1000, 1000, -1000, 1000, 1000, -1000, 1000) }

func pentagon() []impl.Vec { return vecs(0, -10, 10, -3, 6, 8, -6, 8, -10, -3) }

func heptagon() []impl.Vec { return vecs(0, -10, 8, -6, 10, 2, 4, 9, -4, 9, -10, 2, -8, -6) }

// samplePolygons have every number of corners, all sizes up to the whole range, and any corner as the first one.
func samplePolygons() [][]impl.Vec {
	l := [][]impl.Vec{
		smallSquare(), largestSquare(), pentagon(), heptagon(), ring(), vecs(0, 0, 1, 0, 0, 1), vecs(0, 0, 999, 998, 1000, 999), vecs(-1000, -1000, 1000, 999, 1000, 1000),
		vecs(1000, 1000, 999, 1000, 1000, 999), vecs(-1000, 0, 0, -1000, 1000, 0, 0, 1000), vecs(-1000, 1000, -1000, -1000, 1000, 0),
	}
	for n := 3; n <= impl.MaxCorners; n++ {
		l = append(l, bowl(n))
	}
	random := rand.New(rand.NewSource(60))
	for range 400 {
		points := randomVecs(random, 3+random.Intn(40), []int{2, 10, impl.MaxCoord}[random.Intn(3)])
		if hull := wantedHull(points); len(hull) >= 3 && len(hull) <= impl.MaxCorners {
			l = append(l, hull)
		}
	}
	for _, polygon := range slices.Clone(l) {
		l = append(l, startedAt(polygon, 1+random.Intn(len(polygon)-1)))
	}
	return l
}

func randomVecs(random *rand.Rand, n int, most int) []impl.Vec {
	var l []impl.Vec
	for range n {
		l = append(l, impl.Vec{X: random.Intn(2*most+1) - most, Y: random.Intn(2*most+1) - most})
	}
	return l
}

func badPolygons() map[string][][]impl.Vec {
	bad := map[string][][]impl.Vec{
		"too few corners":     {nil, {}, vecs(0, 0), vecs(0, 0, 1, 0), vecs(0, 0, 0, 0)},
		"too many corners":    {bowl(impl.MaxCorners + 1), bowl(20), bowl(64), slices.Repeat(smallSquare(), 50)},
		"corners on a line":   {vecs(0, 0, 1, 0, 2, 0), vecs(0, 0, 1, 1, 3, 3, 2, 2), vecs(0, 0, 5, 0, 2, 0), vecs(0, 0, 0, 3, 0, 1)},
		"a corner on an edge": {vecs(0, 0, 1, 0, 2, 0, 2, 2, 0, 2), vecs(1, 0, 2, 0, 2, 2, 0, 2, 0, 0), vecs(0, 0, 2, 0, 2, 2, 0, 2, 0, 1), vecs(0, 0, 4, 2, 0, 4, 0, 2), vecs(0, 0, 2, 1, 4, 2, 0, 4)},
		"equal corners":       {vecs(0, 0, 0, 0, 0, 0), vecs(0, 0, 2, 0, 2, 0, 2, 2), vecs(0, 0, 2, 0, 0, 0), vecs(0, 0, 2, 0, 2, 2, 0, 2, 0, 0), vecs(0, 0, 0, 0, 2, 0, 2, 2)},
		"clockwise":           {vecs(0, 0, 0, 1, 1, 0), reversed(smallSquare()), reversed(largestSquare()), reversed(pentagon()), reversed(ring()), reversed(bowl(9))},
		"turning inward":      {vecs(0, 0, 4, 0, 1, 1, 0, 4), vecs(0, 0, 4, 0, 4, 4, 2, 1, 0, 4), vecs(0, 0, 2, 2, 2, 0, 0, 2), vecs(0, 0, 2, 0, 0, 2, 2, 2)},
		"several rounds":      {slices.Repeat(smallSquare(), 2), slices.Repeat(smallSquare(), 4), slices.Repeat(vecs(0, 0, 1, 0, 0, 1), 5)},
		"stars":               {star(pentagon(), 2), star(heptagon(), 2), star(heptagon(), 3), star(ring(), 3), star(ring(), 5), star(ring(), 7)},
		"just out of range":   {vecs(0, 0, 1001, 0, 1001, 1001, 0, 1001), vecs(-1001, 0, 0, 0, 0, 1), vecs(0, -1001, 1, 0, 0, 0), vecs(0, 0, 1, 0, 0, 1001)},
	}
	for _, beyond := range badVecs() {
		for i := range smallSquare() {
			l := smallSquare()
			l[i] = beyond
			bad["a corner out of range"] = append(bad["a corner out of range"], l)
		}
		bad["all corners out of range"] = append(bad["all corners out of range"], slices.Repeat([]impl.Vec{beyond}, 3))
	}
	return bad
}

// forAllLists calls look with every list of at most most of the points.
func forAllLists(points []impl.Vec, most int, look func([]impl.Vec)) {
	var extend func(l []impl.Vec)
	extend = func(l []impl.Vec) {
		look(l)
		if len(l) < most {
			for _, p := range points {
				extend(append(l, p))
			}
		}
	}
	extend(make([]impl.Vec, 0, most))
}

// gridOf has the points from the first corner to the second one, both included.
func gridOf(low, high impl.Vec) []impl.Vec {
	var l []impl.Vec
	for x := low.X; x <= high.X; x++ {
		for y := low.Y; y <= high.Y; y++ {
			l = append(l, impl.Vec{X: x, Y: y})
		}
	}
	return l
}

func TestMaxCorners(t *testing.T) {
	if impl.MaxCorners != 16 {
		t.Errorf("MaxCorners is %d", impl.MaxCorners)
	}
}

func TestIsPolygon(t *testing.T) {
	corners := map[int]int{}
	for _, l := range samplePolygons() {
		corners[len(l)]++
		for k := range l {
			if m := startedAt(l, k); !impl.IsPolygon(m) {
				t.Errorf("IsPolygon(%v) is false", m)
			}
		}
		if impl.IsPolygon(reversed(l)) {
			t.Errorf("IsPolygon(%v) is true, and it is clockwise", reversed(l))
		}
	}
	for n := 3; n <= impl.MaxCorners; n++ {
		if corners[n] == 0 {
			t.Errorf("no polygon has %d corners", n)
		}
	}
	for name, lists := range badPolygons() {
		for _, l := range lists {
			if impl.IsPolygon(l) {
				t.Errorf("%s: IsPolygon(%v) is true", name, l)
			}
		}
	}
}

// The stars are refused only because corners are on the wrong side of an edge: each turns to the left everywhere.
func TestStarsTurnLeftEverywhere(t *testing.T) {
	for _, l := range badPolygons()["stars"] {
		for i := range l {
			if a, b, c := l[i], l[(i+1)%len(l)], l[(i+2)%len(l)]; impl.Turn(a, b, c) <= 0 {
				t.Errorf("%v does not turn to the left at %v", l, b)
			}
		}
	}
}

// P15: every list of up to five points of a small grid.
func TestPolygonsOnAllShortLists(t *testing.T) {
	found := map[int]int{}
	forAllLists(gridOf(impl.Vec{}, impl.Vec{X: 3, Y: 2}), 5, func(l []impl.Vec) {
		hull, want := wantedHull(l), wantedPolygon(l)
		if got := impl.IsPolygon(l); got != want {
			t.Fatalf("IsPolygon(%v) = %v", l, got)
		}
		if got := impl.HullOf(l); !slices.Equal(got, hull) {
			t.Fatalf("HullOf(%v) = %v, want %v", l, got, hull)
		}
		if area, text := impl.DoubleArea(l), impl.FormatPolygon(l); area > 0 != want || text != "" != want {
			t.Fatalf("DoubleArea(%v) = %d, and FormatPolygon is %q", l, area, text)
		}
		if want {
			found[len(l)]++
		}
	})
	if found[3] < 100 || found[4] < 100 || found[5] < 100 {
		t.Errorf("the grid has these polygons only: %v", found)
	}
}

func TestHullOf(t *testing.T) {
	equal := slices.Repeat(vecs(-3, 7), 64)
	cases := []struct {
		name    string
		l, want []impl.Vec
	}{
		{"no point", nil, nil},
		{"an empty list", []impl.Vec{}, nil},
		{"one point", equal[:1], equal[:1]},
		{"one point at a corner of the range", vecs(-1000, 1000), vecs(-1000, 1000)},
		{"two equal points", equal[:2], equal[:1]},
		{"64 equal points", equal, equal[:1]},
		{"two points", vecs(5, -2, 3, 4), vecs(3, 4, 5, -2)},
		{"two points with the same X", vecs(5, 4, 5, -2), vecs(5, -2, 5, 4)},
		{"two points, each twice", vecs(5, -2, 3, 4, 3, 4, 5, -2), vecs(3, 4, 5, -2)},
		{"points on a rising line", vecs(1, 1, 3, 3, -2, -2, 0, 0), vecs(-2, -2, 3, 3)},
		{"points on a falling line", vecs(0, 0, -2, 1, 4, -2, 2, -1), vecs(-2, 1, 4, -2)},
		{"points on a vertical line", vecs(7, 1, 7, -1, 7, 5, 7, 0), vecs(7, -1, 7, 5)},
		{"points on a horizontal line", vecs(1, 7, -1, 7, 5, 7, 0, 7), vecs(-1, 7, 5, 7)},
		{"a triangle that goes clockwise", vecs(0, 0, 0, 1, 1, 0), vecs(0, 0, 1, 0, 0, 1)},
		{"points inside and on an edge", vecs(0, 0, 2, 0, 1, 1, 2, 2, 0, 2, 1, 0), smallSquare()},
		{"points on every edge", vecs(1, 0, 2, 1, 1, 2, 0, 1, 2, 2, 0, 2, 2, 0, 0, 0), smallSquare()},
		{"the smallest Y among the smallest X", vecs(4, 3, 0, 9, 4, -5, 0, 2, 0, -1, 2, 2), vecs(0, -1, 4, -5, 4, 3, 0, 9)},
		{"the smallest X and not the smallest Y", vecs(0, -5, 5, 0, -5, 4), vecs(-5, 4, 0, -5, 5, 0)},
		{"a star", star(pentagon(), 2), startedAt(pentagon(), 4)},
		{"the corners of the range", reversed(largestSquare()), largestSquare()},
		{"a sliver", vecs(1000, 999, 0, 0, 999, 998), vecs(0, 0, 999, 998, 1000, 999)},
		{"16 corners", reversed(bowl(16)), bowl(16)},
		{"17 corners", reversed(bowl(17)), bowl(17)},
		{"64 corners", reversed(bowl(64)), bowl(64)},
	}
	for _, c := range cases {
		if got := impl.HullOf(c.l); !slices.Equal(got, c.want) {
			t.Errorf("%s: %v, want %v", c.name, got, c.want)
		}
	}
}

func TestHullOfRefusesTooManyPointsAndWhatIsNoVector(t *testing.T) {
	for _, l := range [][]impl.Vec{slices.Repeat(vecs(1, 1), 65), append(bowl(64), impl.Vec{Y: 1}), bowl(65), slices.Repeat(smallSquare(), 1000)} {
		if got := impl.HullOf(l); len(got) != 0 {
			t.Errorf("the hull of %d points is %v", len(l), got)
		}
	}
	for _, bad := range badVecs() {
		for i := range len(smallSquare()) + 1 {
			if l := slices.Insert(smallSquare(), i, bad); len(impl.HullOf(l)) != 0 {
				t.Errorf("HullOf(%v) = %v", l, impl.HullOf(l))
			}
		}
		if got := impl.HullOf([]impl.Vec{bad}); len(got) != 0 {
			t.Errorf("HullOf of %v alone is %v", bad, got)
		}
	}
}

// P2: a hull contains all of its points, has no other corners, and does not depend on their order or number.
func TestHullContainsItsPoints(t *testing.T) {
	random := rand.New(rand.NewSource(61))
	corners := map[int]int{}
	for range 1500 {
		points := randomVecs(random, 1+random.Intn(64), []int{1, 5, 30, impl.MaxCoord}[random.Intn(4)])
		if random.Intn(4) == 0 {
			points = randomCorners(random, bowl(64), len(points))
		}
		hull := impl.HullOf(points)
		corners[len(hull)]++
		if want := wantedHull(points); !slices.Equal(hull, want) {
			t.Fatalf("HullOf(%v) = %v, want %v", points, hull, want)
		}
		checkHullContains(t, hull, points)
		random.Shuffle(len(points), func(i, j int) { points[i], points[j] = points[j], points[i] })
		if len(points) <= 32 {
			points = slices.Concat(points, points)
		}
		if got := impl.HullOf(points); !slices.Equal(got, hull) {
			t.Fatalf("the hull of %v in another order is %v", points, got)
		}
	}
	for n := 1; n <= impl.MaxCorners+1; n++ {
		if corners[n] == 0 {
			t.Errorf("no hull has %d corners", n)
		}
	}
}

// randomCorners may take a corner more than once.
func randomCorners(random *rand.Rand, l []impl.Vec, n int) []impl.Vec {
	var points []impl.Vec
	for range n {
		points = append(points, l[random.Intn(len(l))])
	}
	return points
}

func checkHullContains(t *testing.T, hull, points []impl.Vec) {
	t.Helper()
	for i, a := range hull {
		if !slices.Contains(points, a) {
			t.Fatalf("%v is a corner of the hull of %v", a, points)
		}
		for _, p := range points {
			if span(a, hull[(i+1)%len(hull)], p) < 0 {
				t.Fatalf("%v is to the right of an edge of the hull of %v", p, points)
			}
		}
	}
	for _, p := range points {
		if place := impl.ContainsPoint(hull, impl.PointOf(p)); len(hull) > 2 && len(hull) <= impl.MaxCorners && place < 0 {
			t.Fatalf("%v is outside of the hull of %v", p, points)
		}
	}
}

// P2: the hull of a polygon is the polygon, started at its first corner from the left.
func TestHullOfAPolygonIsThePolygon(t *testing.T) {
	for _, l := range samplePolygons() {
		for _, points := range [][]impl.Vec{l, reversed(l), slices.Concat(l, l)} {
			hull := impl.HullOf(points)
			if !impl.IsPolygon(hull) || !impl.SamePolygon(hull, l) || !isShift(hull, l) {
				t.Fatalf("the hull of %v is %v", points, hull)
			}
			if slices.ContainsFunc(l, func(p impl.Vec) bool { return isBefore(p, hull[0]) }) {
				t.Fatalf("the hull of %v starts with %v", points, hull[0])
			}
		}
	}
}

func TestDoubleArea(t *testing.T) {
	cases := []struct {
		l    []impl.Vec
		want int
	}{
		{vecs(0, 0, 1, 0, 0, 1), 1}, {vecs(0, 0, 999, 998, 1000, 999), 1}, {smallSquare(), 8}, {largestSquare(), 8000000}, {vecs(-1000, 0, 0, -1000, 1000, 0, 0, 1000), 4000000},
		{vecs(-5, -5, -2, -5, -2, -1), 12}, {pentagon(), 492}, {vecs(0, 0, 3, 1, 1, 2), 5}, {ring(), 156},
	}
	for _, c := range cases {
		for k := range c.l {
			if got := impl.DoubleArea(startedAt(c.l, k)); got != c.want {
				t.Errorf("DoubleArea(%v) = %d, want %d", startedAt(c.l, k), got, c.want)
			}
		}
	}
	for _, l := range samplePolygons() {
		want := 0
		for i, a := range l {
			want += span(impl.Vec{}, a, l[(i+1)%len(l)])
		}
		if got := impl.DoubleArea(l); got != want {
			t.Errorf("DoubleArea(%v) = %d, want %d", l, got, want)
		}
	}
	for name, lists := range badPolygons() {
		for _, l := range lists {
			if got := impl.DoubleArea(l); got != 0 {
				t.Errorf("%s: DoubleArea(%v) = %d", name, l, got)
			}
		}
	}
}

func TestContainsPoint(t *testing.T) {
	triangle := vecs(-1, -1, 5, 1, 1, 3)
	cases := []struct {
		name string
		l    []impl.Vec
		p    string
		want int
	}{
		{"the middle", smallSquare(), "1,1", 1},
		{"just inside", smallSquare(), "1/1000,1999/1000", 1},
		{"just beyond an edge", smallSquare(), "1,2000001/1000000", -1},
		{"just before an edge", smallSquare(), "1,1999999/1000000", 1},
		{"a corner", smallSquare(), "2,2", 0},
		{"the first corner", smallSquare(), "0,0", 0},
		{"the middle of an edge", smallSquare(), "2,1", 0},
		{"the edge from the last corner", smallSquare(), "0,1/3", 0},
		{"an edge's line, ahead", smallSquare(), "3,0", -1},
		{"an edge's line, just ahead", smallSquare(), "2001/1000,0", -1},
		{"an edge's line, behind", smallSquare(), "-1/1000,0", -1},
		{"a line of the last edge", smallSquare(), "0,5", -1},
		{"far away", smallSquare(), "1000,-1000", -1},
		{"beyond the range of vectors", smallSquare(), "1,9223372036854775808", -1},
		{"inside a triangle", triangle, "1,1", 1},
		{"on an edge of the triangle", triangle, "2,0", 0},
		{"on it with fractions", triangle, "1/2,-1/2", 0},
		{"just inside the triangle", triangle, "1/2,-49/100", 1},
		{"just outside the triangle", triangle, "1/2,-51/100", -1},
		{"on the line of its second edge, outside", triangle, "-1,4", -1},
		{"on the line of its last edge, outside", triangle, "2,5", -1},
		{"the corner of the range", largestSquare(), "-1000,1000", 0},
		{"its edge", largestSquare(), "-1000,1/7", 0},
		{"beyond it", largestSquare(), "-1001,0", -1},
		{"just beyond it", largestSquare(), "-3000001/3000,0", -1},
		{"just within it", largestSquare(), "-2999999/3000,0", 1},
	}
	for _, c := range cases {
		p, ok := impl.ParsePoint(c.p)
		for k := range c.l {
			if got := impl.ContainsPoint(startedAt(c.l, k), p); got != c.want || !ok {
				t.Errorf("%s: %d, want %d", c.name, got, c.want)
			}
		}
	}
}

// P2: a vector is outside of a polygon exactly if it changes its hull, and on the boundary exactly if it is on an edge.
func TestContainsPointAgreesWithHulls(t *testing.T) {
	places := map[int]int{}
	for _, l := range samplePolygons() {
		points := slices.Concat(l, gridOf(impl.Vec{X: -3, Y: -3}, impl.Vec{X: 3, Y: 3}))
		for i, a := range l {
			b := l[(i+1)%len(l)]
			points = append(points, impl.Vec{X: (a.X + b.X) / 2, Y: (a.Y + b.Y) / 2}, impl.Vec{X: a.X, Y: b.Y}, impl.Vec{X: (2*a.X - b.X) % 1001, Y: (2*a.Y - b.Y) % 1001})
		}
		for _, p := range points {
			want := -1
			if impl.SamePolygon(impl.HullOf(append(slices.Clone(l), p)), l) {
				want = 1
			}
			for i, a := range l {
				b := l[(i+1)%len(l)]
				if span(a, b, p) == 0 && squareApart(a, p) <= squareApart(a, b) && squareApart(b, p) <= squareApart(a, b) {
					want = 0
				}
			}
			if got := impl.ContainsPoint(l, impl.PointOf(p)); got != want {
				t.Fatalf("ContainsPoint(%v, %v) = %d, want %d", l, p, got, want)
			}
			places[want]++
		}
	}
	if places[-1] < 1000 || places[0] < 1000 || places[1] < 1000 {
		t.Errorf("the points have these places only: %v", places)
	}
}

// A coordinate may have MaxRat limbs. The place is exact even where the fractions of Side become too long and its
// result is 0.
func TestContainsPointWithLongFractions(t *testing.T) {
	triangle := vecs(0, 0, 2, 0, 0, 2)
	third := repeated(333333333, impl.MaxRat)
	over := func(neg bool, num []int) impl.Rat { return fraction(neg, num, third) }
	// twice is 2 - n of the parts of which third make 1.
	twice := func(n int) impl.Rat {
		return impl.RatSub(impl.RatFromInt(2), impl.RatMul(impl.RatFromInt(n), over(false, []int{1})))
	}
	small, smaller := fraction(false, []int{1}, unit(23)), fraction(false, []int{1}, longest())
	top, lowest := wholeOf(longest()), fraction(true, longest(), []int{1})
	zero, one := impl.RatFromInt(0), impl.RatFromInt(1)
	cases := []struct {
		name string
		x, y impl.Rat
		want int
	}{
		{"inside, near the first corner", small, smaller, 1},
		{"left of the first corner", impl.RatNeg(small), smaller, -1},
		{"below the first corner", small, impl.RatNeg(smaller), -1},
		{"left and below", impl.RatNeg(smaller), impl.RatNeg(small), -1},
		{"on the first edge", smaller, zero, 0},
		{"on the last edge", zero, twice(1), 0},
		{"on the second edge", over(false, []int{1}), twice(1), 0},
		{"just inside of it", over(false, []int{1}), twice(2), 1},
		{"just outside of it", over(false, []int{2}), twice(1), -1},
		{"just inside of it, with other denominators", smaller, twice(1), 1},
		{"just outside of it, with other denominators", small, twice(1), -1},
		{"on the line of the second edge, ahead", over(true, []int{1}), twice(-1), -1},
		{"on the line of the second edge, behind", twice(-1), over(true, []int{1}), -1},
		{"far to the right", top, one, -1},
		{"far above", one, top, -1},
		{"far on the line of the first edge", top, zero, -1},
		{"far on the line of the second edge", top, impl.RatSub(impl.RatFromInt(2), top), -1},
		{"far below", one, lowest, -1},
		{"far to the left", lowest, small, -1},
		{"far along both", top, top, -1},
		{"far along neither", lowest, lowest, -1},
	}
	for _, c := range cases {
		p := impl.Point{X: c.x, Y: c.y}
		for k := range triangle {
			if got := impl.ContainsPoint(startedAt(triangle, k), p); got != c.want || !impl.IsValidPoint(p) {
				t.Errorf("%s: %d, want %d", c.name, got, c.want)
			}
		}
	}
	p := impl.Point{X: small, Y: smaller}
	if side := impl.Side(impl.PointOf(triangle[1]), impl.PointOf(triangle[2]), p); side != 0 {
		t.Errorf("Side is %d, so these fractions are not too long for it", side)
	}
}

// pointsAlong are points on the lines of some edges of a polygon and near them, with coordinates of up to MaxRat limbs.
func pointsAlong(random *rand.Rand, l []impl.Vec) []impl.Point {
	var points []impl.Point
	for range 3 {
		i := random.Intn(len(l))
		a, b := l[i], l[(i+1)%len(l)]
		for _, part := range []*big.Rat{
			new(big.Rat), big.NewRat(1, 1), big.NewRat(1, 2), big.NewRat(-1, 3), big.NewRat(1001, 1000), big.NewRat(random.Int63n(1000), 1000),
			new(big.Rat).SetFrac(bigOf(randomNat(random, 11)), bigOf(unit(11))),
		} {
			x, y := along(part, b.X-a.X, a.X), along(part, b.Y-a.Y, a.Y)
			least := new(big.Rat).SetFrac(big.NewInt(random.Int63n(3)-1), bigOf(unit(random.Intn(12))))
			points = append(points, bigPoint{x, y}.point(), bigPoint{x, new(big.Rat).Add(y, least)}.point(), bigPoint{new(big.Rat).Add(x, least), y}.point())
		}
	}
	return append(points, randomPoint(random, 1+random.Intn(impl.MaxRat)), impl.PointOf(l[random.Intn(len(l))]))
}

// P15: ContainsPoint gives what big.Rat gives, without a limit on the way.
func TestContainsPointIsExact(t *testing.T) {
	random := rand.New(rand.NewSource(62))
	places := map[int]int{}
	for _, l := range samplePolygons() {
		for _, p := range pointsAlong(random, l) {
			if isZeroPoint(p) {
				continue
			}
			want := wantedPlace(l, bigPointOf(p))
			if got := impl.ContainsPoint(l, p); got != want {
				t.Fatalf("ContainsPoint(%v, %s) = %d, want %d", l, impl.FormatPoint(p), got, want)
			}
			places[want]++
		}
	}
	if places[-1] < 1000 || places[0] < 1000 || places[1] < 1000 {
		t.Errorf("the points have these places only: %v", places)
	}
}

func TestContainsPointRefusesWhatIsNoPointOrPolygon(t *testing.T) {
	for _, bad := range badPoints() {
		for _, l := range [][]impl.Vec{smallSquare(), largestSquare(), vecs(-1, -1, 1, -1, 0, 3)} {
			if got := impl.ContainsPoint(l, bad); got != -1 {
				t.Errorf("ContainsPoint(%v, %v) = %d", l, bad, got)
			}
		}
	}
	for name, lists := range badPolygons() {
		for _, l := range lists {
			for _, p := range []impl.Point{whole(0, 0), whole(1, 1), {X: impl.RatOf(1, 2), Y: impl.RatOf(1, 2)}, {}} {
				if got := impl.ContainsPoint(l, p); got != -1 {
					t.Errorf("%s: ContainsPoint(%v, %v) = %d", name, l, p, got)
				}
			}
		}
	}
}

func TestMovePolygon(t *testing.T) {
	cases := []struct {
		name string
		l    []impl.Vec
		v    impl.Vec
		want []impl.Vec
	}{
		{"to the right", smallSquare(), impl.Vec{X: 1}, vecs(1, 0, 3, 0, 3, 2, 1, 2)},
		{"down", smallSquare(), impl.Vec{Y: -7}, vecs(0, -7, 2, -7, 2, -5, 0, -5)},
		{"nowhere", smallSquare(), impl.Vec{}, smallSquare()},
		{"to the corner of the range", smallSquare(), impl.Vec{X: 998, Y: 998}, vecs(998, 998, 1000, 998, 1000, 1000, 998, 1000)},
		{"to the other one", smallSquare(), impl.Vec{X: -1000, Y: -1000}, vecs(-1000, -1000, -998, -1000, -998, -998, -1000, -998)},
		{"just beyond it to the right", smallSquare(), impl.Vec{X: 999}, nil},
		{"just beyond it upward", smallSquare(), impl.Vec{Y: 999}, nil},
		{"just beyond it to the left", vecs(-1, 0, 0, 0, 0, 1), impl.Vec{X: -1000}, nil},
		{"just beyond it downward", vecs(0, -1, 0, 0, -1, 0), impl.Vec{Y: -1000}, nil},
		{"the largest one nowhere", largestSquare(), impl.Vec{}, largestSquare()},
		{"the largest one to the right", largestSquare(), impl.Vec{X: 1}, nil},
		{"the largest one to the left", largestSquare(), impl.Vec{X: -1}, nil},
		{"the largest one upward", largestSquare(), impl.Vec{Y: 1}, nil},
		{"the largest one downward", largestSquare(), impl.Vec{Y: -1}, nil},
		{"from one end to the other", vecs(-1000, 1000), impl.Vec{X: 1000, Y: -1000}, vecs(0, 0)},
		{"back into the range", vecs(1001, 0, 1002, -1001), impl.Vec{X: -2, Y: 1}, vecs(999, 1, 1000, -1000)},
		{"back into it as far as possible", vecs(2000, -2000), impl.Vec{X: -1000, Y: 1000}, vecs(1000, -1000)},
		{"not far enough", vecs(2001, 0), impl.Vec{X: -1000}, nil},
		{"around the ints", vecs(math.MaxInt, 0), impl.Vec{X: 1}, nil},
		{"as far around the ints as possible", vecs(0, math.MinInt), impl.Vec{Y: -1000}, nil},
		{"no corner", nil, impl.Vec{X: 1}, nil},
		{"an empty list", []impl.Vec{}, impl.Vec{X: 1}, nil},
		{"clockwise corners, equal ones too", vecs(0, 2, 1, 1, 1, 1, 0, 0), impl.Vec{X: 1, Y: 2}, vecs(1, 4, 2, 3, 2, 3, 1, 2)},
		{"more than MaxCorners", slices.Repeat(vecs(3, 4), 100), impl.Vec{X: -3, Y: 1}, slices.Repeat(vecs(0, 5), 100)},
	}
	for _, c := range cases {
		if got := impl.MovePolygon(c.l, c.v); !slices.Equal(got, c.want) {
			t.Errorf("%s: %v, want %v", c.name, got, c.want)
		}
	}
}

// A vector out of range is refused even if all sums would be in it, and a sum out of range at every place.
func TestMovePolygonRefusesWhatIsNoVector(t *testing.T) {
	for _, bad := range badVecs() {
		for _, l := range [][]impl.Vec{smallSquare(), nil, vecs(-bad.X, -bad.Y), vecs(-1, -1, 0, -1, -1, 0), vecs(1, 1, 2, 1, 1, 2)} {
			if got := impl.MovePolygon(l, bad); len(got) != 0 {
				t.Errorf("MovePolygon(%v, %v) = %v", l, bad, got)
			}
		}
		for i := range smallSquare() {
			l := smallSquare()
			l[i] = bad
			if got := impl.MovePolygon(l, impl.Vec{}); len(got) != 0 {
				t.Errorf("MovePolygon(%v, 0) = %v", l, got)
			}
		}
	}
}

func TestNegatePolygon(t *testing.T) {
	cases := []struct {
		name    string
		l, want []impl.Vec
	}{
		{"a square", smallSquare(), vecs(0, 0, -2, 0, -2, -2, 0, -2)},
		{"the largest square", largestSquare(), vecs(1000, 1000, -1000, 1000, -1000, -1000, 1000, -1000)},
		{"no corner", nil, nil},
		{"an empty list", []impl.Vec{}, nil},
		{"one corner", vecs(-3, 5), vecs(3, -5)},
		{"clockwise corners, equal ones too", vecs(0, 2, 1, 1, 1, 1, 0, 0), vecs(0, -2, -1, -1, -1, -1, 0, 0)},
		{"more than MaxCorners", slices.Repeat(vecs(3, -4), 100), slices.Repeat(vecs(-3, 4), 100)},
	}
	for _, c := range cases {
		if got := impl.NegatePolygon(c.l); !slices.Equal(got, c.want) {
			t.Errorf("%s: %v, want %v", c.name, got, c.want)
		}
	}
	for _, bad := range badVecs() {
		for i := range smallSquare() {
			l := smallSquare()
			l[i] = bad
			if got := impl.NegatePolygon(l); len(got) != 0 {
				t.Errorf("NegatePolygon(%v) = %v", l, got)
			}
		}
	}
}

// P2: a polygon that is moved or negated is one with the same area and the same points, and both can be undone.
func TestMovedAndNegatedPolygons(t *testing.T) {
	random := rand.New(rand.NewSource(63))
	moves := map[bool]int{}
	for _, l := range samplePolygons() {
		area, points := impl.DoubleArea(l), pointsAlong(random, l)
		negated := impl.NegatePolygon(l)
		if !impl.IsPolygon(negated) || impl.DoubleArea(negated) != area || !slices.Equal(impl.NegatePolygon(negated), l) {
			t.Fatalf("%v negated is %v", l, negated)
		}
		v := randomVec(random)
		moved := impl.MovePolygon(l, v)
		isIn := !slices.ContainsFunc(l, func(p impl.Vec) bool { return !isInRange(impl.Vec{X: p.X + v.X, Y: p.Y + v.Y}) })
		moves[isIn]++
		if back := impl.MovePolygon(moved, impl.Vec{X: -v.X, Y: -v.Y}); isIn && (!slices.Equal(back, l) || impl.DoubleArea(moved) != area) || impl.IsPolygon(moved) != isIn {
			t.Fatalf("%v moved by %v is %v, and back %v", l, v, moved, back)
		}
		for _, p := range points {
			place, opposite := impl.ContainsPoint(l, p), impl.Point{X: impl.RatNeg(p.X), Y: impl.RatNeg(p.Y)}
			if got := impl.ContainsPoint(negated, opposite); got != place {
				t.Fatalf("the place of %v is %d in %v, and that of %v in %v is %d", p, place, l, opposite, negated, got)
			}
			if q := impl.MovePoint(p, v); isIn && impl.IsValidPoint(q) && impl.ContainsPoint(moved, q) != place {
				t.Fatalf("the place of %v is %d in %v, and another one when both are moved by %v", p, place, l, v)
			}
		}
	}
	if moves[true] < 100 || moves[false] < 100 {
		t.Errorf("the moves are too much alike: %v", moves)
	}
}

func TestSamePolygon(t *testing.T) {
	for _, l := range samplePolygons() {
		for k := range l {
			if m := startedAt(l, k); !impl.SamePolygon(l, m) || !impl.SamePolygon(m, l) {
				t.Errorf("SamePolygon(%v, %v) is false", l, m)
			}
		}
		if m := reversed(l); impl.SamePolygon(l, m) || impl.SamePolygon(l, l[1:]) || impl.SamePolygon(l[1:], l) || impl.SamePolygon(l, append(m, m[0])) {
			t.Errorf("SamePolygon of %v and another list is true", l)
		}
	}
	beyond := vecs(math.MaxInt, math.MinInt, 1001, 0)
	for _, pair := range [][2][]impl.Vec{{nil, nil}, {nil, {}}, {{}, nil}, {{}, {}}, {beyond, reversed(beyond)}, {bowl(64), startedAt(bowl(64), 40)}, {slices.Repeat(vecs(1, 2, 3, 4), 40), slices.Repeat(vecs(3, 4, 1, 2), 40)}} {
		if !impl.SamePolygon(pair[0], pair[1]) {
			t.Errorf("SamePolygon(%v, %v) is false", pair[0], pair[1])
		}
	}
	for _, pair := range [][2][]impl.Vec{{nil, vecs(0, 0)}, {vecs(0, 0), {}}, {vecs(0, 0), vecs(0, 0, 0, 0)}, {vecs(0, 1), vecs(1, 0)}, {vecs(0, 1), vecs(0, 2)}, {vecs(1001, 0), vecs(1002, 0)}} {
		if impl.SamePolygon(pair[0], pair[1]) {
			t.Errorf("SamePolygon(%v, %v) is true", pair[0], pair[1])
		}
	}
}

// All pairs of short lists of three points, of which many have equal points and are nearly shifts of each other.
func TestSamePolygonOnAllShortLists(t *testing.T) {
	var lists [][]impl.Vec
	forAllLists(vecs(0, 0, 1, 0, 0, 1), 4, func(l []impl.Vec) { lists = append(lists, slices.Clone(l)) })
	for _, l := range lists {
		for _, m := range lists {
			if got, want := impl.SamePolygon(l, m), isShift(l, m); got != want {
				t.Errorf("SamePolygon(%v, %v) = %v", l, m, got)
			}
		}
	}
}

// textOf is the text of corners, whether they make a polygon or not.
func textOf(l []impl.Vec) string {
	var parts []string
	for _, v := range l {
		parts = append(parts, strconv.Itoa(v.X)+","+strconv.Itoa(v.Y))
	}
	return strings.Join(parts, " ")
}

// P2: polygons, and nothing else, are recovered from their text.
func TestPolygonIsRecoveredFromItsText(t *testing.T) {
	for _, l := range samplePolygons() {
		s := impl.FormatPolygon(l)
		if want := textOf(l); s != want {
			t.Errorf("FormatPolygon(%v) = %q, want %q", l, s, want)
		}
		if got, ok := impl.ParsePolygon(s); !slices.Equal(got, l) || !ok {
			t.Errorf("ParsePolygon(%q) = %v, %v", s, got, ok)
		}
	}
	for name, lists := range badPolygons() {
		for _, l := range lists {
			if got := impl.FormatPolygon(l); got != "" {
				t.Errorf("%s: FormatPolygon(%v) = %q", name, l, got)
			}
			if got, ok := impl.ParsePolygon(textOf(l)); len(got) != 0 || ok {
				t.Errorf("%s: ParsePolygon(%q) = %v, %v", name, textOf(l), got, ok)
			}
		}
	}
}

func TestParsePolygonRefusesWhatFormatPolygonNeverWrites(t *testing.T) {
	bad := []string{
		"", " ", "  ", "0,0", "0,0 2,0", "0,0  2,0 2,2", "0,0 2,0  2,2", " 0,0 2,0 2,2", "0,0 2,0 2,2 ", " 0,0 2,0 2,2 ", "0,0\t2,0 2,2", "0,0\n2,0 2,2", "0,0 2,0 2,2\n", "\n0,0 2,0 2,2",
		"0,02,0 2,2", "0 0 2 0 2 2", "0,0,2,0,2,2", "0,0;2,0;2,2", "(0,0) (2,0) (2,2)", "0,0 2,0 2,2,", "0,0 2,0 ,2,2", "0,0 2,0 2", "0,0 2,0 2,2 x", "0,0 2,0 +2,2", "0,0 2,0 02,2", "-0,0 2,0 2,2", "0,-0 2,0 2,2",
		"0/1,0 2,0 2,2", "1/2,0 2,0 2,2", "0.0,0 2,0 2,2", "0,0 1001,0 2,2", "0,0 2,0 2,1001", "-1001,0 2,0 2,2", "0,0 9223372036854775808,0 2,2", "0,0 18446744073709551618,0 2,2",
		"0,0\u00a02,0\u00a02,2", "0,0 2,0 2,\uff12", "0,0 2,0 2,2\x00", "\x000,0 2,0 2,2", "0,0 2,0\x00 2,2", strings.Repeat(" ", 3000), strings.Repeat("0,0 ", 3000), "0,0 2,0 2,2" + strings.Repeat(" ", 3000), "0,0 2,0 2," + strings.Repeat("2", 3000),
	}
	for _, s := range notUTF8 {
		bad = append(bad, s, s+" 0,0 2,0 2,2", "0,0 2,0 2,2 "+s, "0,0 2,0 2,2"+s)
	}
	for _, s := range bad {
		if l, ok := impl.ParsePolygon(s); len(l) != 0 || ok {
			t.Errorf("ParsePolygon(%.30q) = %v, %v, want nil, false", s, l, ok)
		}
	}
}

// A list is a polygon's text with its corners in four orders of 24, and each of these is read as it is written.
func TestParsePolygonInAllOrders(t *testing.T) {
	found := 0
	forAllLists(smallSquare(), 4, func(l []impl.Vec) {
		want := isShift(l, smallSquare())
		got, ok := impl.ParsePolygon(textOf(l))
		if isTriangle := len(l) == 3 && wantedPolygon(l); ok != (want || isTriangle) || ok && !slices.Equal(got, l) {
			t.Errorf("ParsePolygon(%q) = %v, %v", textOf(l), got, ok)
		}
		if want {
			found++
		}
	})
	if found != 4 {
		t.Errorf("%d orders of the corners are a polygon", found)
	}
}

// cornersOf reads corners strictly, whether they make a polygon or not.
func cornersOf(s string) (l []impl.Vec, ok bool) {
	for _, part := range strings.Split(s, " ") {
		first, second, _ := strings.Cut(part, ",")
		x, _ := strconv.Atoi(first)
		y, _ := strconv.Atoi(second)
		l = append(l, impl.Vec{X: x, Y: y})
	}
	return l, textOf(l) == s
}

// Every text that differs in one byte from that of a polygon.
func TestParsePolygonOnTextsNearby(t *testing.T) {
	check := func(s string) {
		want, ok := cornersOf(s)
		if ok = ok && wantedPolygon(want); !ok {
			want = nil
		}
		if got, gotOk := impl.ParsePolygon(s); gotOk != ok || !slices.Equal(got, want) {
			t.Errorf("ParsePolygon(%q) = %v, %v, want %v, %v", s, got, gotOk, want, ok)
		}
	}
	for _, l := range [][]impl.Vec{smallSquare(), largestSquare(), pentagon(), ring(), bowl(3), bowl(15), vecs(-1000, 1000, -100, -10, 0, 10)} {
		forTextsNearby(textOf(l), "-+,/ \n\x000129", check)
	}
}

// framedVecs lays l between other vectors, so that a write before it or into its spare capacity is seen.
func framedVecs(l []impl.Vec) (row []impl.Vec, inside []impl.Vec) {
	row = append(vecs(-7, 7, 7, -7), l...)
	row = append(row, slices.Repeat(vecs(-7, 7), 70)...)
	return row, row[2 : 2+len(l)]
}

func overwriteVecs(l []impl.Vec) {
	l = l[:cap(l)]
	for i := range l {
		l[i] = impl.Vec{X: 99, Y: -99}
	}
}

// polygonResults are the results of all functions of polygons that return one.
func polygonResults(l, m []impl.Vec, p impl.Point) map[string][]impl.Vec {
	impl.IsPolygon(l)
	impl.DoubleArea(l)
	impl.ContainsPoint(l, p)
	impl.SamePolygon(l, m)
	parsed, _ := impl.ParsePolygon(impl.FormatPolygon(l))
	return map[string][]impl.Vec{
		"HullOf": impl.HullOf(l), "MovePolygon": impl.MovePolygon(l, impl.Vec{X: 1, Y: -1}), "MovePolygon by nothing": impl.MovePolygon(l, impl.Vec{}),
		"NegatePolygon": impl.NegatePolygon(l), "ParsePolygon": parsed,
	}
}

// sampleLists are polygons, lists that are none, and lists of points in all orders and numbers.
func sampleLists() [][]impl.Vec {
	lists := append(samplePolygons(), vecs(3, 4), vecs(5, 5, 1, 1), bowl(17), reversed(bowl(64)), bowl(65), slices.Repeat(vecs(3, 4), 64))
	random := rand.New(rand.NewSource(64))
	for range 100 {
		lists = append(lists, randomVecs(random, random.Intn(67), []int{2, impl.MaxCoord, impl.MaxCoord + 1}[random.Intn(3)]))
	}
	for _, bad := range badPolygons() {
		lists = append(lists, bad...)
	}
	return lists
}

func TestPolygonFunctionsLeaveTheirArgumentsAlone(t *testing.T) {
	long := impl.Point{X: fraction(false, []int{1}, longest()), Y: fraction(true, longest(), []int{2})}
	for _, l := range sampleLists() {
		row, inside := framedVecs(l)
		otherRow, other := framedVecs(reversed(l))
		wasRow, wasOther := slices.Clone(row), slices.Clone(otherRow)
		rows, p := framedPoint(long)
		for _, m := range [][]impl.Vec{other, inside} {
			for name, result := range polygonResults(inside, m, p) {
				overwriteVecs(result)
				if !slices.Equal(row, wasRow) || !slices.Equal(otherRow, wasOther) {
					t.Fatalf("%s of %v, or a write to its result, changed an argument", name, l)
				}
			}
		}
		if was, _ := framedPoint(long); !slices.EqualFunc(rows, was, slices.Equal[[]int]) {
			t.Fatalf("ContainsPoint of %v changed the point", l)
		}
	}
}

func TestPolygonResultsAreNewEachTime(t *testing.T) {
	for _, l := range sampleLists() {
		want := map[string][]impl.Vec{}
		for name, result := range polygonResults(l, l, whole(1, 1)) {
			want[name] = slices.Clone(result)
			overwriteVecs(result)
		}
		for name, result := range polygonResults(l, l, whole(1, 1)) {
			if !slices.Equal(result, want[name]) {
				t.Fatalf("%s of %v is %v after its last result was changed", name, l, result)
			}
		}
	}
}
