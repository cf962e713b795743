package tests

import (
	"fmt"
	"maps"
	"math"
	"math/big"
	"math/rand"
	"slices"
	"testing"

	"loop.example/g00811/impl"
)

func edgeOf(ax, ay, bx, by int) impl.Edge {
	return impl.Edge{A: impl.Vec{X: ax, Y: ay}, B: impl.Vec{X: bx, Y: by}}
}

func lowerOf(area, ax, ay, bx, by int) impl.Edge {
	return impl.Edge{A: impl.Vec{X: ax, Y: ay}, B: impl.Vec{X: bx, Y: by}, Area: area, Lower: true}
}

func upperOf(area, ax, ay, bx, by int) impl.Edge {
	return impl.Edge{A: impl.Vec{X: ax, Y: ay}, B: impl.Vec{X: bx, Y: by}, Area: area}
}

func exactInt(n int) *big.Rat { return new(big.Rat).SetInt64(int64(n)) }

// wantedHeight weighs both ends, the one that is nearer to x more.
func wantedHeight(e impl.Edge, x *big.Rat) *big.Rat {
	ofB, ofA := along(x, e.B.Y, -e.A.X*e.B.Y), along(x, -e.A.Y, e.B.X*e.A.Y)
	sum := new(big.Rat).Add(ofA, ofB)
	return sum.Quo(sum, exactInt(e.B.X-e.A.X))
}

func isParallel(e, f impl.Edge) bool {
	v, w := e.A.X-e.B.X, f.A.X-f.B.X
	return (e.A.Y-e.B.Y)*w == (f.A.Y-f.B.Y)*v
}

// wantedCrossing looks at which of the edges is the higher one at both ends of the range that they have in common.
func wantedCrossing(e, f impl.Edge) *big.Rat {
	lo, hi := max(e.A.X, f.A.X), min(e.B.X, f.B.X)
	if lo > hi || isParallel(e, f) {
		return nil
	}
	above := func(x int) *big.Rat {
		at := exactInt(x)
		return new(big.Rat).Sub(wantedHeight(e, at), wantedHeight(f, at))
	}
	first, last := above(lo), above(hi)
	if first.Sign()*last.Sign() > 0 {
		return nil
	}
	if first.Sign() == 0 {
		return exactInt(lo)
	}
	part := new(big.Rat).Quo(first, new(big.Rat).Sub(first, last))
	return along(part, hi-lo, lo)
}

func wantedLevel(e impl.Edge, y int) *big.Rat {
	if y < min(e.A.Y, e.B.Y) || y > max(e.A.Y, e.B.Y) || e.A.Y == e.B.Y {
		return nil
	}
	return along(big.NewRat(int64(y-e.A.Y), int64(e.B.Y-e.A.Y)), e.B.X-e.A.X, e.A.X)
}

// wantedEdges finds out from the other corners whether a polygon lies above an edge.
func wantedEdges(areas [][]impl.Vec) []impl.Edge {
	var l []impl.Edge
	for i, area := range areas {
		if !wantedPolygon(area) {
			return nil
		}
		for k := range area {
			ends := []impl.Vec{area[k], area[(k+1)%len(area)]}
			slices.SortFunc(ends, func(v, w impl.Vec) int { return v.X - w.X })
			if ends[0].X == ends[1].X {
				continue
			}
			e := impl.Edge{A: ends[0], B: ends[1], Area: i}
			e.Lower = !slices.ContainsFunc(area, func(v impl.Vec) bool { return exactInt(v.Y).Cmp(wantedHeight(e, exactInt(v.X))) < 0 })
			l = append(l, e)
		}
	}
	return l
}

// badEdges have ends with the same X coordinate, ends that are exchanged, or ends that are no vectors.
func badEdges() []impl.Edge {
	l := []impl.Edge{
		{}, edgeOf(3, 0, 3, 5), edgeOf(3, 5, 3, 5), edgeOf(-1000, -1000, -1000, 1000), edgeOf(1, 0, 0, 0), edgeOf(4, 2, 0, 0), edgeOf(1000, 5, -1000, 6),
		edgeOf(math.MinInt, 0, math.MaxInt, 0), edgeOf(math.MaxInt, 0, math.MinInt, 0), edgeOf(0, math.MinInt, 1, math.MaxInt), edgeOf(-1001, 0, 1001, 0),
		edgeOf(-1001, 0, 0, 0), edgeOf(0, 0, 1001, 0), edgeOf(0, 1001, 1, 0), edgeOf(0, -1001, 1, 0), edgeOf(0, 0, 1, 1001), edgeOf(0, 0, 1, -1001),
		lowerOf(0, 0, 0, 0, 0), lowerOf(7, 5, 0, 4, 0), upperOf(1, 2, 2, 2, 3),
	}
	for _, bad := range badVecs() {
		for _, v := range []impl.Vec{{X: -1000, Y: 3}, {}, {X: 1000, Y: -1000}, bad} {
			l = append(l, impl.Edge{A: bad, B: v}, impl.Edge{A: v, B: bad}, impl.Edge{A: v, B: bad, Area: 2, Lower: true})
		}
	}
	return l
}

func randomEdge(random *rand.Rand, most int) impl.Edge {
	for {
		v := randomVecs(random, 2, most)
		if v[0].X < v[1].X {
			return impl.Edge{A: v[0], B: v[1], Area: random.Intn(5), Lower: random.Intn(2) == 0}
		}
	}
}

// sampleEdges are short and long ones, level ones and steep ones, and those of the ends of the range.
func sampleEdges() []impl.Edge {
	l := []impl.Edge{
		edgeOf(0, 0, 1, 0), edgeOf(0, 0, 4, 2), edgeOf(0, 2, 4, 0), edgeOf(-1000, 5, 1000, 5), edgeOf(0, -1000, 1, 1000), edgeOf(-1, 1000, 0, -1000),
		edgeOf(-1000, -1000, 1000, 1000), edgeOf(-1000, 1000, 1000, -1000), edgeOf(-1000, -1000, 1000, 999), edgeOf(-1000, 1000, 999, -1000),
		edgeOf(999, 1000, 1000, 1000), edgeOf(-1000, -1000, -999, -1000), edgeOf(-1000, 0, 1000, 1), edgeOf(-7, 3, 8, -2),
	}
	random := rand.New(rand.NewSource(121))
	for range 100 {
		l = append(l, randomEdge(random, []int{3, 20, impl.MaxCoord}[random.Intn(3)]))
	}
	return l
}

func TestIsValidEdge(t *testing.T) {
	valid := []impl.Edge{
		edgeOf(0, 0, 1, 0), edgeOf(0, 5, 1, -5), edgeOf(-1000, -1000, 1000, 1000), edgeOf(-1000, 1000, 1000, -1000), edgeOf(-1000, 1000, -999, 1000),
		edgeOf(999, -1000, 1000, 1000), edgeOf(-3, 0, 3, 0), lowerOf(3, 0, 0, 1, 7), upperOf(0, 2, 2, 3, 2), lowerOf(-1, 0, 0, 1, 0),
		upperOf(math.MinInt, 0, 0, 1, 0), lowerOf(math.MaxInt, 0, 0, 1, 0), upperOf(1000000, 0, 0, 1, 0),
	}
	for _, e := range append(valid, sampleEdges()...) {
		if !impl.IsValidEdge(e) {
			t.Errorf("IsValidEdge(%v) is false", e)
		}
	}
	for _, e := range badEdges() {
		if impl.IsValidEdge(e) {
			t.Errorf("IsValidEdge(%v) is true", e)
		}
	}
}

func TestIsValidEdgeAtAllEnds(t *testing.T) {
	ends := append(edgeVecs(), badVecs()...)
	for _, a := range ends {
		for _, b := range ends {
			want := isInRange(a) && isInRange(b) && a.X < b.X
			if got := impl.IsValidEdge(impl.Edge{A: a, B: b}); got != want {
				t.Errorf("IsValidEdge from %v to %v is %v", a, b, got)
			}
		}
	}
}

func TestEdgesOf(t *testing.T) {
	square, slanted, triangle := rectangle(0, 0, 2, 2), vecs(2, 0, 4, 2, 2, 4, 0, 2), vecs(0, 0, 4, 1, 1, 3)
	cases := []struct {
		name  string
		areas [][]impl.Vec
		want  []impl.Edge
	}{
		{"no polygon", nil, nil},
		{"no polygon in an empty list", [][]impl.Vec{}, nil},
		{"vertical and horizontal edges", [][]impl.Vec{square}, []impl.Edge{lowerOf(0, 0, 0, 2, 0), upperOf(0, 0, 2, 2, 2)}},
		{"a vertical edge first", [][]impl.Vec{startedAt(square, 1)}, []impl.Edge{upperOf(0, 0, 2, 2, 2), lowerOf(0, 0, 0, 2, 0)}},
		{"a horizontal edge above first", [][]impl.Vec{startedAt(square, 2)}, []impl.Edge{upperOf(0, 0, 2, 2, 2), lowerOf(0, 0, 0, 2, 0)}},
		{"a vertical edge to the left first", [][]impl.Vec{startedAt(square, 3)}, []impl.Edge{lowerOf(0, 0, 0, 2, 0), upperOf(0, 0, 2, 2, 2)}},
		{"neither vertical nor horizontal edges", [][]impl.Vec{slanted}, []impl.Edge{
			lowerOf(0, 2, 0, 4, 2), upperOf(0, 2, 4, 4, 2), upperOf(0, 0, 2, 2, 4), lowerOf(0, 0, 2, 2, 0),
		}},
		{"two upper edges", [][]impl.Vec{triangle}, []impl.Edge{lowerOf(0, 0, 0, 4, 1), upperOf(0, 1, 3, 4, 1), upperOf(0, 0, 0, 1, 3)}},
		{"two lower edges", [][]impl.Vec{vecs(3, 2, 0, 3, 1, 0)}, []impl.Edge{upperOf(0, 0, 3, 3, 2), lowerOf(0, 0, 3, 1, 0), lowerOf(0, 1, 0, 3, 2)}},
		{"a vertical edge only", [][]impl.Vec{vecs(1, -3, 1, 5, -2, 0)}, []impl.Edge{upperOf(0, -2, 0, 1, 5), lowerOf(0, -2, 0, 1, -3)}},
		{"a horizontal edge only", [][]impl.Vec{vecs(-3, 0, 3, 0, 1, 4)}, []impl.Edge{lowerOf(0, -3, 0, 3, 0), upperOf(0, 1, 4, 3, 0), upperOf(0, -3, 0, 1, 4)}},
		{"several polygons", [][]impl.Vec{vecs(5, 5, 6, 5, 5, 6), square, vecs(0, -1, 1, 0, 0, 1)}, []impl.Edge{
			lowerOf(0, 5, 5, 6, 5), upperOf(0, 5, 6, 6, 5), lowerOf(1, 0, 0, 2, 0), upperOf(1, 0, 2, 2, 2), lowerOf(2, 0, -1, 1, 0), upperOf(2, 0, 1, 1, 0),
		}},
		{"overlapping polygons", [][]impl.Vec{square, rectangle(1, 1, 3, 3), rectangle(-5, -5, 5, 5)}, []impl.Edge{
			lowerOf(0, 0, 0, 2, 0), upperOf(0, 0, 2, 2, 2), lowerOf(1, 1, 1, 3, 1), upperOf(1, 1, 3, 3, 3), lowerOf(2, -5, -5, 5, -5), upperOf(2, -5, 5, 5, 5),
		}},
		{"the same polygon twice", [][]impl.Vec{square, square}, []impl.Edge{lowerOf(0, 0, 0, 2, 0), upperOf(0, 0, 2, 2, 2), lowerOf(1, 0, 0, 2, 0), upperOf(1, 0, 2, 2, 2)}},
		{"the largest square", [][]impl.Vec{largestSquare()}, []impl.Edge{lowerOf(0, -1000, -1000, 1000, -1000), upperOf(0, -1000, 1000, 1000, 1000)}},
		{"an edge across the range", [][]impl.Vec{vecs(-1000, -1000, 1000, 1000, -999, 1000)}, []impl.Edge{
			lowerOf(0, -1000, -1000, 1000, 1000), upperOf(0, -999, 1000, 1000, 1000), upperOf(0, -1000, -1000, -999, 1000),
		}},
		{"a list that is no polygon", [][]impl.Vec{vecs(0, 0, 1, 0)}, nil},
		{"an empty list", [][]impl.Vec{nil}, nil},
		{"no polygon first", [][]impl.Vec{reversed(square), triangle, slanted}, nil},
		{"no polygon in the middle", [][]impl.Vec{square, {}, slanted}, nil},
		{"no polygon last", [][]impl.Vec{square, triangle, vecs(0, 0, 1001, 0, 0, 1)}, nil},
	}
	for _, c := range cases {
		if got := impl.EdgesOf(c.areas); !slices.Equal(got, c.want) {
			t.Errorf("%s: %v, want %v", c.name, got, c.want)
		}
		if wanted := wantedEdges(c.areas); !slices.Equal(wanted, c.want) {
			t.Errorf("%s: the corners say %v", c.name, wanted)
		}
	}
}

// sampleAreas are lists of polygons of all sizes, some of them more than once and with another first corner.
func sampleAreas() [][][]impl.Vec {
	random := rand.New(rand.NewSource(122))
	polygons := append(samplePolygons(), gridPolygons()...)
	l := [][][]impl.Vec{nil, polygons, slices.Repeat(polygons[:3], 40)}
	for range 300 {
		var areas [][]impl.Vec
		for range random.Intn(6) {
			area := polygons[random.Intn(len(polygons))]
			areas = append(areas, startedAt(area, random.Intn(len(area))))
		}
		l = append(l, areas)
	}
	for _, s := range crowdedScenes(123, 50) {
		l = append(l, wantedAreas(s, 1))
	}
	return l
}

func TestEdgesOfAreThoseOfTheCorners(t *testing.T) {
	for _, areas := range sampleAreas() {
		got, want := impl.EdgesOf(areas), wantedEdges(areas)
		if !slices.Equal(got, want) {
			t.Fatalf("EdgesOf(%v) = %v, want %v", areas, got, want)
		}
		for _, e := range got {
			if !impl.IsValidEdge(e) {
				t.Fatalf("EdgesOf(%v) has the edge %v", areas, e)
			}
		}
	}
}

func TestEdgesOfRefusesWhatIsNoPolygon(t *testing.T) {
	random := rand.New(rand.NewSource(124))
	polygons := samplePolygons()
	for name, lists := range badPolygons() {
		for _, bad := range lists {
			var areas [][]impl.Vec
			for range 4 {
				areas = append(areas, polygons[random.Intn(len(polygons))])
			}
			for k := range 5 {
				if got := impl.EdgesOf(slices.Insert(slices.Clone(areas), k, bad)); len(got) != 0 {
					t.Fatalf("%s: with the element %v at %d there are the edges %v", name, bad, k, got)
				}
			}
			if got := impl.EdgesOf([][]impl.Vec{bad}); len(got) != 0 {
				t.Fatalf("%s: EdgesOf(%v) = %v", name, bad, got)
			}
		}
	}
}

// P6: the lines of all edges that are Lower lie below an inner point, and those of the other ones above it. One edge
// each spans it, or two where they meet.
func TestEdgesAreAroundThePointsInside(t *testing.T) {
	random := rand.New(rand.NewSource(125))
	found := map[string]int{}
	for _, l := range append(samplePolygons(), gridPolygons()...) {
		edges := impl.EdgesOf([][]impl.Vec{l})
		for _, at := range placesInside(random, l) {
			if wantedPlace(l, at) != 1 {
				continue
			}
			spanning, want := map[bool]int{}, map[bool]int{true: 1, false: 1}
			for _, v := range l {
				if exactInt(v.X).Cmp(at.x) == 0 {
					want[exactInt(v.Y).Cmp(at.y) < 0]++
					found["under or over a corner"]++
				}
			}
			for _, e := range edges {
				checkSideOfEdge(t, e, at)
				if impl.SpansX(e, at.point().X, at.point().X) {
					spanning[e.Lower]++
				}
			}
			if !maps.Equal(spanning, want) {
				t.Fatalf("of the edges of %v these numbers span the inner point %v: %v", l, at, spanning)
			}
			found["inside"]++
		}
	}
	if found["inside"] < 1000 || found["under or over a corner"] < 100 {
		t.Errorf("the points are too much alike: %v", found)
	}
}

// placesInside are in a polygon, or almost there, some of them just over or under a corner.
func placesInside(random *rand.Rand, l []impl.Vec) []bigPoint {
	places := []bigPoint{pointIn(random, l), pointIn(random, l), pointIn(random, l)}
	for _, v := range l {
		corner, up := bigPointOfVec(v), bigPoint{new(big.Rat), big.NewRat(1, 1)}
		places = append(places, corner.farther(up, big.NewRat(1, 1000)), corner.farther(up, big.NewRat(-1, 1000)))
	}
	return places
}

func checkSideOfEdge(t *testing.T, e impl.Edge, at bigPoint) {
	t.Helper()
	want := 1
	if e.Lower {
		want = -1
	}
	if impl.RatCmp(impl.HeightAt(e, at.point().X), at.point().Y) != want || wantedHeight(e, at.x).Cmp(at.y) != want {
		t.Fatalf("the edge %v is not at the right side of the inner point %v", e, at)
	}
}

// P6: a point is in the polygon exactly if two edges that span it, one of them Lower, have it between their heights.
func TestEdgesSayWhatIsInThePolygon(t *testing.T) {
	random := rand.New(rand.NewSource(126))
	found := map[int]int{}
	for _, l := range fewPolygons() {
		edges := impl.EdgesOf([][]impl.Vec{l})
		isTooLong := func(x impl.Rat) bool {
			return slices.ContainsFunc(edges, func(e impl.Edge) bool { return isZeroRat(impl.HeightAt(e, x)) })
		}
		for _, p := range pointsAlong(random, l) {
			if isZeroPoint(p) || isTooLong(p.X) {
				continue
			}
			under, over, place := false, false, wantedPlace(l, bigPointOf(p))
			for _, e := range edges {
				order := impl.RatCmp(impl.HeightAt(e, p.X), p.Y)
				under = under || e.Lower && order <= 0 && impl.SpansX(e, p.X, p.X)
				over = over || !e.Lower && order >= 0 && impl.SpansX(e, p.X, p.X)
			}
			if (under && over) != (place >= 0) {
				t.Fatalf("the place of %s in %v is %d, but an edge under it is %v and over it %v", impl.FormatPoint(p), l, place, under, over)
			}
			found[place]++
		}
	}
	if found[-1] < 1000 || found[0] < 400 || found[1] < 400 {
		t.Errorf("the points are too much alike: %v", found)
	}
}

// checkHeights reads pairs of an X coordinate and the height there.
func checkHeights(t *testing.T, name string, e impl.Edge, pairs string) {
	t.Helper()
	for _, p := range pointsOf(t, pairs) {
		if got := impl.HeightAt(e, p.X); !sameRat(got, p.Y) {
			t.Errorf("%s: HeightAt(%v, %s) = %s, want %s", name, e, impl.FormatRat(p.X), impl.FormatRat(got), impl.FormatRat(p.Y))
		}
	}
}

func TestHeightAt(t *testing.T) {
	cases := []struct {
		name, pairs string
		e           impl.Edge
	}{
		{"at the ends", "0,0 4,2", edgeOf(0, 0, 4, 2)},
		{"in between", "2,1 1,1/2 3,3/2 1/2,1/4 1/1000000007,1/2000000014", edgeOf(0, 0, 4, 2)},
		{"outside of the edge", "-1,-1/2 5,5/2 -1000,-500 1000000000000,500000000000 -1/3,-1/6", edgeOf(0, 0, 4, 2)},
		{"a falling edge", "-3,5 4,-2 0,2 1/2,3/2 2,0 5,-3 -4,6 1/1000000000000,1999999999999/1000000000000", edgeOf(-3, 5, 4, -2)},
		{"a horizontal edge", "-3,7 4,7 0,7 1/3,7 -1000000,7 22222222222222222222/33333333333333333333333,7", edgeOf(-3, 7, 4, 7)},
		{"a horizontal edge of height 0", "-3,0 4,0 1/3,0 99999999999999999999,0", edgeOf(-3, 0, 4, 0)},
		{"a steep edge", "0,-1000 1,1000 1/2,0 1/3,-1000/3 3/1000,-994 2,3000", edgeOf(0, -1000, 1, 1000)},
		{"across the range", "-1000,-1000 1000,1000 0,0 1/7,1/7 -7/3,-7/3 1001,1001", edgeOf(-1000, -1000, 1000, 1000)},
		{"across the range, falling", "-1000,1000 1000,-1000 0,0 1/7,-1/7", edgeOf(-1000, 1000, 1000, -1000)},
		{"almost level across the range", "-1000,-1000 1000,-999 0,-1999/2 1/2,-3997999/4000 3999000,1000", edgeOf(-1000, -1000, 1000, -999)},
		{"apart from the axes", "7,3 12,-4 17/2,9/10 0,64/5 64/7,0", edgeOf(7, 3, 12, -4)},
		{"an edge of a polygon", "7,3 12,-4 17/2,9/10 0,64/5 64/7,0", upperOf(5, 7, 3, 12, -4)},
		{"a lower edge of a polygon", "7,3 12,-4 17/2,9/10", lowerOf(0, 7, 3, 12, -4)},
	}
	for _, c := range cases {
		checkHeights(t, c.name, c.e, c.pairs)
	}
	for _, e := range sampleEdges() {
		if a, b := impl.HeightAt(e, impl.RatFromInt(e.A.X)), impl.HeightAt(e, impl.RatFromInt(e.B.X)); !sameRat(a, impl.RatFromInt(e.A.Y)) || !sameRat(b, impl.RatFromInt(e.B.Y)) {
			t.Errorf("%v has the heights %s and %s at its ends", e, impl.FormatRat(a), impl.FormatRat(b))
		}
	}
}

// numbersAround are at, near to and between the ends of an edge, and fractions of all lengths.
func numbersAround(random *rand.Rand, e impl.Edge) []*big.Rat {
	var l []*big.Rat
	for _, n := range []int{e.A.X, e.B.X} {
		l = append(l, exactInt(n), beyond(n, 1), beyond(n, -1), exactInt(n-1), exactInt(n+1))
	}
	for _, part := range parts(random) {
		l = append(l, along(part, e.B.X-e.A.X, e.A.X))
	}
	for _, most := range []int{1, 2, 11, 12, 23, impl.MaxRat} {
		part := new(big.Rat).SetFrac(bigOf(randomNat(random, most)), bigOf(unit(min(most, impl.MaxRat-1))))
		l = append(l, bigRatOf(randomRat(random, most)), along(part, e.B.X-e.A.X, e.A.X))
	}
	return slices.DeleteFunc(l, func(q *big.Rat) bool { return isZeroRat(ratOf(q)) })
}

func TestHeightAtGivesTheRightFractions(t *testing.T) {
	random := rand.New(rand.NewSource(127))
	found := map[bool]int{}
	check := func(e impl.Edge, x *big.Rat) {
		got, want := impl.HeightAt(e, ratOf(x)), ratOf(wantedHeight(e, x))
		if !sameRat(got, want) {
			t.Fatalf("HeightAt(%v, %v) = %v, want %v", e, x, got, want)
		}
		found[isZeroRat(want)]++
	}
	for _, e := range sampleEdges() {
		for _, x := range numbersAround(random, e) {
			check(e, x)
		}
		for _, r := range edgeRats() {
			check(e, bigRatOf(r))
		}
	}
	if found[true] < 500 || found[false] < 5000 {
		t.Errorf("the heights are too much alike: %v", found)
	}
}

// The height has to be a valid fraction, but not what may be calculated on the way to it.
func TestHeightAtAtTheLimitOfLimbs(t *testing.T) {
	top, tiny := bigOf(longest()), new(big.Rat).SetFrac(big.NewInt(1), bigOf(longest()))
	half := new(big.Int).Rsh(new(big.Int).Add(top, big.NewInt(1)), 1)
	most, centre := new(big.Rat).SetInt(top), new(big.Rat).SetInt(half)
	quotient := new(big.Rat).SetFrac(top, new(big.Int).Sub(top, big.NewInt(1)))
	cases := []struct {
		name string
		e    impl.Edge
		x    *big.Rat
		want bool
	}{
		{"the greatest fraction", edgeOf(0, 0, 1, 1), most, true},
		{"the least fraction", edgeOf(0, 0, 1, -1), most, true},
		{"one more than the greatest fraction", edgeOf(0, 1, 1, 2), most, false},
		{"one less than the least fraction", edgeOf(0, -1, 1, -2), most, false},
		{"one less than the greatest fraction", edgeOf(0, -1, 1, 0), most, true},
		{"just the greatest fraction", edgeOf(0, 1, 1, 2), along(most, 1, -1), true},
		{"just the least fraction", edgeOf(0, -1, 1, -2), along(most, 1, -1), true},
		{"twice the greatest fraction", edgeOf(0, 0, 1, 2), most, false},
		{"a third of the greatest fraction", edgeOf(0, 0, 3, 1), most, true},
		{"a seventh of the greatest fraction", edgeOf(0, 0, 7, 1), most, true},
		{"the smallest fraction", edgeOf(0, 0, 1, 1), tiny, true},
		{"half of the smallest fraction", edgeOf(0, 0, 2, 1), tiny, false},
		{"twice the smallest fraction", edgeOf(0, 0, 1, 2), tiny, true},
		{"a ninth of the smallest fraction and more", edgeOf(0, 5, 9, 6), tiny, false},
		{"a seventh of seven of the smallest fractions", edgeOf(0, 0, 7, 1), along(tiny, 7, 0), true},
		{"one more than the smallest fraction", edgeOf(0, 1, 1, 2), tiny, false},
		{"one less than the smallest fraction", edgeOf(0, -1, 1, 0), tiny, true},
		{"a level height at the greatest fraction", edgeOf(-1, 7, 1, 7), most, true},
		{"a level height at the least fraction", edgeOf(1, 7, 1000, 7), along(most, -1, 0), true},
		{"a level height at the smallest fraction", edgeOf(-1, 7, 1, 7), tiny, true},
		{"a level height at a quotient of the greatest numbers", edgeOf(-1, -7, 1, -7), quotient, true},
		{"a quotient of the greatest numbers", edgeOf(0, 0, 1, 1), quotient, true},
		{"one more than such a quotient", edgeOf(0, 1, 1, 2), quotient, false},
		{"the distance from A is too long", edgeOf(-1, 0, 1, 1), most, true},
		{"the distance from A is too long, but not that from B", edgeOf(-1, 0, 999, 500), most, true},
		{"the rise is too long, but not the height", edgeOf(0, -1, 1, 1), centre, true},
		{"the rise and the height are too long", edgeOf(0, 0, 1, 2), centre, false},
		{"the rise is much too long", edgeOf(-1000, -1000, 1000, 1000), most, true},
		{"the rise of a falling edge is much too long", edgeOf(-1000, 1000, 1000, -1000), most, true},
		{"the slope is too great", edgeOf(-1, -1000, 1, 1000), most, false},
	}
	for _, c := range cases {
		got, want := impl.HeightAt(c.e, ratOf(c.x)), ratOf(wantedHeight(c.e, c.x))
		if !impl.RatOk(ratOf(c.x)) || !sameRat(got, want) || isZeroRat(got) == c.want {
			t.Errorf("%s: %v, want %v", c.name, got, want)
		}
	}
}

func TestSpansX(t *testing.T) {
	e := edgeOf(-3, 5, 4, -2)
	cases := []struct {
		name, pairs string
		e           impl.Edge
		want        bool
	}{
		{"the ends", "-3,4 -3,-3 4,4", e, true},
		{"just inside", "-3+,4- -3,4- -3+,4 -3+,-3+ 4-,4-", e, true},
		{"just outside", "-3-,4+ -3-,4 -3,4+ -3-,4- -3+,4+ -3-,-3- 4+,4+ -3-,-3 4,4+", e, false},
		{"inside", "0,1 0,0 -2,3 1/3,1/2 -5/2,7/2", e, true},
		{"outside", "-4,5 -4,4 -3,5 5,6 -10,-5 -1000,1000 -1000000000000,1 1,1000000000000000000000", e, false},
		{"lo greater than hi", "4,-3 1,0 1/2,1/3 4+,-3- 5,-4 1000,-1000 1000000000000000000,-1000000000000000000", e, true},
		{"lo greater than hi, on one side", "-4,-5 -3-,-4 6,5 5,4+", e, false},
		{"across the range", "-1000,1000 -1000+,1000- 0,0 1000,-1000", edgeOf(-1000, -1000, 1000, 1000), true},
		{"beyond the range", "-1000-,1000 -1000,1000+ -1001,0 0,1001", edgeOf(-1000, -1000, 1000, 1000), false},
		{"a short edge", "0,1 0,0 1,1 1/3,2/3", edgeOf(0, 1000, 1, -1000), true},
		{"outside of a short edge", "0-,1 0,1+ -1,0 1,2", edgeOf(0, 1000, 1, -1000), false},
		{"a horizontal edge", "-3,4 -3+,4- 0,0", edgeOf(-3, 0, 4, 0), true},
		{"an edge of a polygon", "-3,4 -3+,4- 0,0", lowerOf(3, -3, 5, 4, -2), true},
		{"exchanged ends", "-3,4 0,0 4,-3 4,4 -3,-3", edgeOf(4, -2, -3, 5), false},
		{"ends with the same X coordinate", "4,4 0,0 5,3", edgeOf(4, -2, 4, 5), false},
	}
	for _, c := range cases {
		for _, p := range placesOf(t, c.pairs) {
			if got := impl.SpansX(c.e, p.point().X, p.point().Y); got != c.want {
				t.Errorf("%s: SpansX(%v, %v, %v) is %v", c.name, c.e, p.x, p.y, got)
			}
		}
	}
}

func TestSpansXComparesBothEnds(t *testing.T) {
	top := bigOf(longest())
	numbers := []*big.Rat{
		new(big.Rat).SetInt(top), new(big.Rat).SetInt(new(big.Int).Neg(top)), new(big.Rat).SetFrac(big.NewInt(1), top), new(big.Rat).SetFrac(big.NewInt(-1), top),
		new(big.Rat).SetInt64(math.MinInt), new(big.Rat).SetInt64(math.MaxInt), big.NewRat(1, 3),
	}
	for _, n := range []int{-1001, -1000, -7, 0, 3, 1000, 1001} {
		numbers = append(numbers, beyond(n, -1), exactInt(n), beyond(n, 1))
	}
	found := map[bool]int{}
	for _, e := range []impl.Edge{edgeOf(-7, 3, 0, 0), edgeOf(0, 3, 3, 2), edgeOf(-1000, 3, 3, 999), edgeOf(-7, 0, 1000, 0), edgeOf(-1000, 1, 1000, -1), edgeOf(-1000, 0, -7, 0)} {
		for _, lo := range numbers {
			for _, hi := range numbers {
				want := exactInt(e.A.X).Cmp(lo) <= 0 && hi.Cmp(exactInt(e.B.X)) <= 0
				if got := impl.SpansX(e, ratOf(lo), ratOf(hi)); got != want {
					t.Errorf("SpansX(%v, %v, %v) is %v", e, lo, hi, got)
				}
				found[want]++
			}
		}
	}
	if found[true] < 1000 || found[false] < 1000 {
		t.Errorf("the numbers are too much alike: %v", found)
	}
}

// checkFound expects the fraction and true, or the zero value and false where there is none.
func checkFound(t *testing.T, call string, got impl.Rat, ok bool, want *big.Rat) {
	t.Helper()
	if !sameRat(got, fractionOf(want)) || ok != (want != nil) {
		t.Fatalf("%s is %v, %v, want %v", call, got, ok, want)
	}
}

// checkCrossing asks in both orders, and for the heights of both edges where they cross.
func checkCrossing(t *testing.T, e, f impl.Edge, want *big.Rat) {
	t.Helper()
	x, ok := impl.CrossingX(e, f)
	checkFound(t, fmt.Sprintf("CrossingX(%v, %v)", e, f), x, ok, want)
	back, backOk := impl.CrossingX(f, e)
	checkFound(t, fmt.Sprintf("CrossingX(%v, %v)", f, e), back, backOk, want)
	if !ok {
		return
	}
	at := bigRatOf(x)
	height := wantedHeight(e, at)
	if height.Cmp(wantedHeight(f, at)) != 0 || !sameRat(impl.HeightAt(e, x), ratOf(height)) || !sameRat(impl.HeightAt(f, x), ratOf(height)) {
		t.Fatalf("the edges %v and %v cross at %v, but not with the same height", e, f, at)
	}
	if !impl.SpansX(e, x, x) || !impl.SpansX(f, x, x) {
		t.Fatalf("the edges %v and %v cross at %v, but one of them does not span it", e, f, at)
	}
}

func TestCrossingX(t *testing.T) {
	rising, falling, flat := edgeOf(0, 0, 4, 2), edgeOf(0, 2, 4, 0), edgeOf(-3, 1, 7, 1)
	cases := []struct {
		name, want string
		e, f       impl.Edge
	}{
		{"inside both", "2", rising, falling},
		{"inside both, at a fraction", "12/5", rising, edgeOf(0, 6, 3, 0)},
		{"inside both, to the left of the Y axis", "-25/12", edgeOf(-5, -2, 0, 5), edgeOf(-3, 3, 1, -1)},
		{"a horizontal edge", "2", rising, flat},
		{"two edges across the range", "0", edgeOf(-1000, -1000, 1000, 1000), edgeOf(-1000, 1000, 1000, -1000)},
		{"two edges across the range, at a fraction", "-1000/7996001", edgeOf(-1000, -1000, 1000, 999), edgeOf(-1000, 1000, 999, -1000)},
		{"almost parallel", "-5/2", edgeOf(-999, 383, 994, -566), edgeOf(-978, 373, 973, -556)},
		{"two steep edges", "1/2", edgeOf(0, -1000, 1, 1000), edgeOf(0, 1000, 1, -1000)},
		{"the left end of one", "0", edgeOf(0, 0, 4, 3), edgeOf(-2, -1, 2, 1)},
		{"the right end of one", "4", edgeOf(0, 1, 4, 3), edgeOf(2, 5, 5, 2)},
		{"the left end of both", "1", edgeOf(1, 2, 4, 2), edgeOf(1, 2, 3, 7)},
		{"the right end of both", "4", edgeOf(1, 2, 4, -2), edgeOf(2, 2, 4, -2)},
		{"the right end of one is the left end of the other one", "3", edgeOf(0, 0, 3, 1), edgeOf(3, 1, 5, 9)},
		{"both ends of the range", "1000", edgeOf(-1000, -1000, 1000, 1000), edgeOf(-1000, 999, 1000, 1000)},
		{"the X coordinate is an end of both", "2", edgeOf(0, 0, 2, 3), edgeOf(2, 3, 4, 0)},
		{"the X coordinate is an end of both, but they do not meet", "", edgeOf(0, 0, 2, 3), edgeOf(2, 4, 4, 0)},
		{"only the lines, to the left", "", edgeOf(1, 1, 3, 3), edgeOf(1, -1, 3, -3)},
		{"only the lines, to the right", "", edgeOf(1, 5, 3, 4), edgeOf(1, 0, 3, 1)},
		{"only the lines, inside of one", "", flat, edgeOf(0, 2, 2, 5)},
		{"only the lines, inside of the other one", "", edgeOf(-9, 5, -2, 2), flat},
		{"only the lines, just outside of one", "", edgeOf(-1000, 0, 1000, 1), edgeOf(-1000, 1000, 0, 1)},
		{"only the lines, between both", "", edgeOf(0, 0, 1, 1), edgeOf(3, 1, 4, 0)},
		{"parallel", "", rising, edgeOf(0, 1, 4, 3)},
		{"parallel, of another length", "", rising, edgeOf(-2, 5, 8, 10)},
		{"parallel, horizontal", "", flat, edgeOf(0, 0, 1, 0)},
		{"parallel, falling", "", falling, edgeOf(1, 3, 3, 2)},
		{"parallel across the range", "", edgeOf(-1000, -1000, 999, 1000), edgeOf(-999, -1000, 1000, 1000)},
		{"on one line", "", rising, edgeOf(2, 1, 6, 3)},
		{"on one line, with a common end", "", rising, edgeOf(4, 2, 6, 3)},
		{"on one line, apart", "", rising, edgeOf(-4, -2, -2, -1)},
		{"on one horizontal line", "", flat, edgeOf(0, 1, 1, 1)},
		{"the same edge", "", rising, rising},
		{"the same edge of two polygons", "", lowerOf(1, 0, 0, 4, 2), upperOf(2, 0, 0, 4, 2)},
		{"two edges of one polygon", "2", lowerOf(0, 0, 2, 2, 0), lowerOf(0, 2, 0, 4, 2)},
		{"two edges of two polygons", "2", lowerOf(7, 0, 0, 4, 2), upperOf(-7, 0, 2, 4, 0)},
	}
	for _, c := range cases {
		var want *big.Rat
		if c.want != "" {
			want, _ = new(big.Rat).SetString(c.want)
		}
		checkCrossing(t, c.e, c.f, want)
		if wanted := wantedCrossing(c.e, c.f); (wanted == nil) != (want == nil) || want != nil && wanted.Cmp(want) != 0 {
			t.Errorf("%s: the heights at the ends say %v", c.name, wanted)
		}
	}
}

// kindOfCrossing tells at how many of the edges' ends they cross, and why there is no crossing.
func kindOfCrossing(e, f impl.Edge, x *big.Rat) string {
	if x == nil && isParallel(e, f) {
		return "parallel"
	}
	if x == nil {
		return "none"
	}
	ends := 0
	for _, end := range []int{e.A.X, e.B.X, f.A.X, f.B.X} {
		if exactInt(end).Cmp(x) == 0 {
			ends++
		}
	}
	return []string{"inside both", "at an end of one", "at an end of both"}[ends]
}

func edgesOn(points []impl.Vec) []impl.Edge {
	var l []impl.Edge
	for _, a := range points {
		for _, b := range points {
			if a.X < b.X {
				l = append(l, impl.Edge{A: a, B: b})
			}
		}
	}
	return l
}

func TestCrossingXOnAGrid(t *testing.T) {
	edges := edgesOn(gridOf(impl.Vec{X: -1, Y: -1}, impl.Vec{X: 2, Y: 1}))
	found := map[string]int{}
	for _, e := range edges {
		for _, f := range edges {
			want := wantedCrossing(e, f)
			checkCrossing(t, e, f, want)
			found[kindOfCrossing(e, f, want)]++
		}
	}
	for _, kind := range []string{"inside both", "at an end of one", "at an end of both", "parallel", "none"} {
		if found[kind] < 100 {
			t.Errorf("the edges are too much alike: %v", found)
		}
	}
}

func TestCrossingXGivesTheRightFractions(t *testing.T) {
	random := rand.New(rand.NewSource(128))
	found := map[string]int{}
	check := func(e, f impl.Edge) {
		want := wantedCrossing(e, f)
		checkCrossing(t, e, f, want)
		found[kindOfCrossing(e, f, want)]++
	}
	edges := sampleEdges()
	for _, e := range edges {
		for _, f := range edges[:14] {
			check(e, f)
		}
		for range 20 {
			f := edges[random.Intn(len(edges))]
			check(e, f)
			if fromEnd := (impl.Edge{A: e.B, B: f.B}); impl.IsValidEdge(fromEnd) {
				check(e, fromEnd)
			}
			if shifted := (impl.Edge{A: plus(e.A, impl.Vec{X: 1}), B: plus(e.B, impl.Vec{X: 1, Y: random.Intn(3) - 1})}); impl.IsValidEdge(shifted) {
				check(e, shifted)
			}
		}
	}
	if found["inside both"] < 500 || found["at an end of both"] < 500 || found["parallel"] < 300 || found["none"] < 500 {
		t.Errorf("the edges are too much alike: %v", found)
	}
}

// P6: edges of two blocked areas cross exactly if they have a point in common and are not parallel.
func TestEdgesOfPolygonsCrossIfTheyMeet(t *testing.T) {
	random := rand.New(rand.NewSource(129))
	found := map[string]int{}
	polygons := samplePolygons()
	for range 800 {
		areas := [][]impl.Vec{polygons[random.Intn(len(polygons))], polygons[random.Intn(len(polygons))]}
		edges := impl.EdgesOf(areas)
		for i, e := range edges {
			for _, f := range edges[:i] {
				if e.Area == f.Area {
					continue
				}
				want := wantedCrossing(e, f)
				meet := wantedMeet(bigPointOfVec(e.A), bigPointOfVec(e.B), bigPointOfVec(f.A), bigPointOfVec(f.B))
				x, ok := impl.CrossingX(e, f)
				checkFound(t, fmt.Sprintf("CrossingX(%v, %v)", e, f), x, ok, want)
				if ok != (meet && !isParallel(e, f)) {
					t.Fatalf("the edges %v and %v meet, or they do not, but CrossingX is %v", e, f, ok)
				}
				found[kindOfCrossing(e, f, want)]++
			}
		}
	}
	if found["inside both"] < 500 || found["none"] < 500 {
		t.Errorf("the edges are too much alike: %v", found)
	}
}

// checkLevel expects the height y where LevelX finds it, on the edge.
func checkLevel(t *testing.T, e impl.Edge, y int, want *big.Rat) {
	t.Helper()
	x, ok := impl.LevelX(e, y)
	checkFound(t, fmt.Sprintf("LevelX(%v, %d)", e, y), x, ok, want)
	if !ok {
		return
	}
	if wantedHeight(e, bigRatOf(x)).Cmp(exactInt(y)) != 0 || !sameRat(impl.HeightAt(e, x), impl.RatFromInt(y)) || !impl.SpansX(e, x, x) {
		t.Fatalf("the edge %v has the height %s at %s, not %d, or does not span it", e, impl.FormatRat(impl.HeightAt(e, x)), impl.FormatRat(x), y)
	}
}

func TestLevelX(t *testing.T) {
	const none = "none"
	rising, falling := edgeOf(0, 0, 4, 2), edgeOf(-3, 5, 4, -2)
	across, backwards := edgeOf(-1000, -1000, 1000, 1000), edgeOf(-1000, 1000, 1000, -1000)
	cases := []struct {
		name, want string
		e          impl.Edge
		y          int
	}{
		{"in between", "2", rising, 1},
		{"at A", "0", rising, 0},
		{"at B", "4", rising, 2},
		{"just below A", none, rising, -1},
		{"just above B", none, rising, 3},
		{"far below", none, rising, -1000},
		{"far above", none, rising, 1000},
		{"in between, falling", "2", falling, 0},
		{"at A, falling", "-3", falling, 5},
		{"at B, falling", "4", falling, -2},
		{"just above A, falling", none, falling, 6},
		{"just below B, falling", none, falling, -3},
		{"at a fraction", "7/3", edgeOf(0, -7, 4, 5), 0},
		{"at a fraction to the left of the Y axis", "-19/7", edgeOf(-5, -4, -1, 3), 0},
		{"of a steep edge", "1/2", edgeOf(0, -1000, 1, 1000), 0},
		{"of a steep edge, near to its end", "1/2000", edgeOf(0, -1000, 1, 1000), -999},
		{"of a steep edge, at its ends", "1", edgeOf(0, -1000, 1, 1000), 1000},
		{"of an almost level edge", "-1000", edgeOf(-1000, 0, 1000, 1), 0},
		{"of a horizontal edge", none, edgeOf(-3, 5, 4, 5), 5},
		{"above a horizontal edge", none, edgeOf(-3, 5, 4, 5), 6},
		{"of a horizontal edge at 0", none, edgeOf(-3, 0, 4, 0), 0},
		{"of a horizontal edge at MaxCoord", none, edgeOf(-3, 1000, 4, 1000), 1000},
		{"MaxCoord", "1000", across, 1000},
		{"-MaxCoord", "-1000", across, -1000},
		{"one beyond MaxCoord", none, across, 1001},
		{"one beyond -MaxCoord", none, across, -1001},
		{"MaxCoord, falling", "-1000", backwards, 1000},
		{"-MaxCoord, falling", "1000", backwards, -1000},
		{"one beyond MaxCoord, falling", none, backwards, 1001},
		{"one beyond -MaxCoord, falling", none, backwards, -1001},
		{"the greatest int", none, across, math.MaxInt},
		{"the least int", none, across, math.MinInt},
		{"an int that wraps around", none, across, 1 << 32},
		{"another int that wraps around", none, across, math.MinInt + 1},
		{"an edge of a polygon", "2", upperOf(4, 0, 0, 4, 2), 1},
		{"a lower edge of a polygon", "2", lowerOf(-1, 0, 0, 4, 2), 1},
		{"exchanged ends", none, edgeOf(4, 2, 0, 0), 1},
		{"ends with the same X coordinate", none, edgeOf(4, 2, 4, 0), 1},
	}
	for _, c := range cases {
		var want *big.Rat
		if c.want != none {
			want, _ = new(big.Rat).SetString(c.want)
		}
		checkLevel(t, c.e, c.y, want)
	}
}

func TestLevelXGivesTheRightFractions(t *testing.T) {
	random := rand.New(rand.NewSource(130))
	found := map[bool]int{}
	for _, e := range append(sampleEdges(), edgesOn(gridOf(impl.Vec{X: -2, Y: -2}, impl.Vec{X: 2, Y: 2}))...) {
		levels := []int{-1001, -1000, -999, -1, 0, 1, 999, 1000, 1001, math.MinInt, math.MaxInt}
		for range 5 {
			levels = append(levels, random.Intn(2001)-1000, min(e.A.Y, e.B.Y)+random.Intn(1+max(e.A.Y-e.B.Y, e.B.Y-e.A.Y)))
		}
		for _, end := range []int{e.A.Y, e.B.Y} {
			levels = append(levels, end-1, end, end+1)
		}
		for _, y := range levels {
			want := wantedLevel(e, y)
			checkLevel(t, e, y, want)
			found[want != nil]++
		}
	}
	if found[true] < 1000 || found[false] < 1000 {
		t.Errorf("the levels are too much alike: %v", found)
	}
}

// checkNoEdge expects of every function what it returns where an edge is not valid.
func checkNoEdge(t *testing.T, bad impl.Edge) {
	t.Helper()
	for _, x := range []impl.Rat{impl.RatFromInt(0), impl.RatFromInt(bad.A.X), impl.RatFromInt(bad.B.X), impl.RatOf(1, 3), wholeOf(longest()), {}} {
		if !isZeroRat(impl.HeightAt(bad, x)) || impl.SpansX(bad, x, x) {
			t.Errorf("HeightAt or SpansX of %v takes it for an edge", bad)
		}
	}
	if lo, hi := impl.RatFromInt(math.MaxInt), impl.RatFromInt(math.MinInt); impl.SpansX(bad, lo, hi) || impl.SpansX(bad, hi, lo) {
		t.Errorf("SpansX of %v takes it for an edge", bad)
	}
	for _, other := range []impl.Edge{bad, edgeOf(-1000, -1000, 1000, 1000), edgeOf(-1000, 5, 1000, -7), edgeOf(0, 0, 4, 2), {}} {
		for _, pair := range [][2]impl.Edge{{bad, other}, {other, bad}} {
			if x, ok := impl.CrossingX(pair[0], pair[1]); ok || !isZeroRat(x) {
				t.Errorf("CrossingX(%v, %v) is %v, %v", pair[0], pair[1], x, ok)
			}
		}
	}
	for _, y := range []int{bad.A.Y, bad.B.Y, -1000, 0, 1, 1000, math.MinInt, math.MaxInt} {
		if x, ok := impl.LevelX(bad, y); ok || !isZeroRat(x) {
			t.Errorf("LevelX(%v, %d) is %v, %v", bad, y, x, ok)
		}
	}
}

func TestEdgeFunctionsRefuseWhatIsNoEdge(t *testing.T) {
	for _, bad := range badEdges() {
		checkNoEdge(t, bad)
	}
}

func TestEdgeFunctionsRefuseWhatIsNoFraction(t *testing.T) {
	for _, bad := range badRats() {
		for _, e := range append(sampleEdges()[:14], edgeOf(-1000, 0, 1000, 0)) {
			if got := impl.HeightAt(e, bad); !isZeroRat(got) {
				t.Errorf("HeightAt(%v, %v) = %v", e, bad, got)
			}
			for _, good := range []impl.Rat{impl.RatFromInt(0), impl.RatFromInt(e.A.X), impl.RatFromInt(e.B.X), bad} {
				if impl.SpansX(e, bad, good) || impl.SpansX(e, good, bad) {
					t.Errorf("SpansX(%v) is true with %v and %v", e, bad, good)
				}
			}
		}
	}
}

// Which polygon an edge belongs to, and at which side of it, is not looked at, even if there is no such polygon.
func TestEdgesOfAnyPolygonAreAlike(t *testing.T) {
	random := rand.New(rand.NewSource(131))
	for _, e := range sampleEdges() {
		f, y := randomEdge(random, 20), e.A.Y+random.Intn(3)-1
		x := ratOf(numbersAround(random, e)[random.Intn(10)])
		for _, area := range []int{-1, 0, 7, 1000000, math.MinInt, math.MaxInt} {
			other := impl.Edge{A: e.A, B: e.B, Area: area, Lower: !e.Lower}
			checkCrossing(t, other, f, wantedCrossing(e, f))
			checkLevel(t, other, y, wantedLevel(e, y))
			if !impl.IsValidEdge(other) || !sameRat(impl.HeightAt(other, x), impl.HeightAt(e, x)) || impl.SpansX(other, x, x) != impl.SpansX(e, x, x) {
				t.Errorf("%v is another edge than %v", other, e)
			}
		}
	}
}

// edgeResults are the fractions that the functions of an edge return.
func edgeResults(e, f impl.Edge, x, lo impl.Rat) map[string]impl.Rat {
	impl.IsValidEdge(e)
	impl.SpansX(e, lo, x)
	crossing, _ := impl.CrossingX(e, f)
	level, _ := impl.LevelX(e, f.A.Y)
	return map[string]impl.Rat{"HeightAt": impl.HeightAt(e, x), "CrossingX": crossing, "LevelX": level}
}

// edgeArguments are edges, valid ones and others, with numbers of all sizes. In some of these both parts are one slice.
func edgeArguments() (edges []impl.Edge, numbers []impl.Rat) {
	one, long := []int{1}, longest()
	numbers = append(edgeRats(), badRats()...)
	for _, part := range [][]int{one, {7}, long} {
		numbers = append(numbers, fraction(false, part, one), fraction(true, one, part), fraction(false, part, part), fraction(true, part[:1], part[:1]))
	}
	return slices.Concat(sampleEdges(), edgesOn(gridOf(impl.Vec{X: -1, Y: -1}, impl.Vec{X: 1, Y: 1})), badEdges()[:40]), numbers
}

func TestEdgeFunctionsLeaveTheirArgumentsAlone(t *testing.T) {
	edges, numbers := edgeArguments()
	for i, e := range edges {
		for k, number := range numbers {
			rowsX, x := framedRat(number)
			rowsLo, lo := framedRat(numbers[(3*k+i)%len(numbers)])
			rows := [][]int{rowsX[0], rowsX[1], rowsLo[0], rowsLo[1]}
			was := clonedLists(rows)
			for name, result := range edgeResults(e, edges[(i+k)%len(edges)], x, lo) {
				overwriteRat(result)
				if !slices.EqualFunc(rows, was, slices.Equal) {
					t.Fatalf("%s of %v, or a write to its result, changed an argument", name, e)
				}
			}
		}
	}
}

func overwriteEdges(l []impl.Edge) {
	l = l[:cap(l)]
	for i := range l {
		l[i] = lowerOf(99, 99, -99, 98, -98)
	}
}

func TestEdgesOfLeavesItsArgumentsAlone(t *testing.T) {
	bad := sampleLists()
	for i, areas := range append(sampleAreas(), bad, bad[:3]) {
		var rows, lists, was [][]impl.Vec
		for _, area := range areas {
			row, inside := framedVecs(area)
			rows, lists = append(rows, row), append(lists, inside)
		}
		was = clonedLists(rows)
		spare := vecs(i, i)
		outer := append(slices.Clone(lists), spare, spare)
		want := wantedEdges(areas)
		overwriteEdges(impl.EdgesOf(outer[:len(lists)]))
		if !slices.EqualFunc(rows, was, slices.Equal) || !slices.EqualFunc(outer, append(slices.Clone(areas), spare, spare), slices.Equal) {
			t.Fatalf("EdgesOf(%v), or a write to its result, changed the argument", areas)
		}
		if got := impl.EdgesOf(lists); !slices.Equal(got, want) {
			t.Fatalf("EdgesOf(%v) is %v after its last result was changed", areas, got)
		}
	}
}

func clonedRat(r impl.Rat) impl.Rat {
	return fraction(r.Num.Neg, slices.Clone(r.Num.Mag), slices.Clone(r.Den))
}

func TestEdgeResultsAreNewEachTime(t *testing.T) {
	edges, numbers := edgeArguments()
	for i, e := range edges {
		for k, x := range numbers {
			f := edges[(i+k)%len(edges)]
			want := map[string]impl.Rat{}
			for name, result := range edgeResults(e, f, x, x) {
				checkApart(t, name, [][]int{result.Num.Mag, result.Den}, overwrite)
				want[name] = clonedRat(result)
				overwriteRat(result)
			}
			for name, result := range edgeResults(e, f, x, x) {
				if !sameRat(result, want[name]) {
					t.Fatalf("%s of %v is %v after its last result was changed, was %v", name, e, result, want[name])
				}
			}
		}
	}
}
