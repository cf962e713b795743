package tests

import (
	"math"
	"math/big"
	"math/rand"
	"slices"
	"testing"

	"loop.example/g00811/impl"
)

// quarters is k modulo 4: the ints wrap around at a multiple of 4.
func quarters(k int) int { return int(uint(k) % 4) }

// turnedVec turns by one quarter after another.
func turnedVec(v impl.Vec, k int) impl.Vec {
	for range quarters(k) {
		v = impl.Vec{X: -v.Y, Y: v.X}
	}
	return v
}

func turnedList(l []impl.Vec, k int) []impl.Vec {
	var m []impl.Vec
	for _, v := range l {
		m = append(m, turnedVec(v, k))
	}
	return m
}

func (p bigPoint) turned(k int) bigPoint {
	for range quarters(k) {
		p = bigPoint{new(big.Rat).Neg(p.y), p.x}
	}
	return p
}

// turnCounts are numbers of quarter turns: small ones and the ends of the ints.
func turnCounts() []int {
	l := []int{1<<32 - 1, 1 << 32, 1<<32 + 1, -1 << 32, 1 << 62, -1<<62 - 1}
	for n := range 10 {
		l = append(l, n, -n, math.MaxInt-n, math.MinInt+n)
	}
	return l
}

func badHeadings() []int {
	return []int{-1, 4, -2, -3, -4, -5, 5, 7, 8, 100, 1 << 32, 1<<32 + 1, -1 << 32, math.MaxInt, math.MaxInt - 1, math.MinInt, math.MinInt + 1}
}

func badTurns() []int {
	return []int{0, 2, -2, 3, -3, 4, 5, -5, 1<<32 + 1, 1<<32 - 1, math.MaxInt, math.MinInt, math.MinInt + 1}
}

func origin() impl.Point { return whole(0, 0) }

func TestTurnVec(t *testing.T) {
	cases := []struct {
		name    string
		v, want impl.Vec
		counts  []int
	}{
		{"no turn", impl.Vec{X: 2, Y: 1}, impl.Vec{X: 2, Y: 1}, []int{0, 4, 8, 400, -4, -8, math.MinInt, math.MaxInt - 3}},
		{"to the left", impl.Vec{X: 2, Y: 1}, impl.Vec{X: -1, Y: 2}, []int{1, 5, 9, 401, -3, -7, math.MinInt + 1, math.MaxInt - 2}},
		{"half a turn", impl.Vec{X: 2, Y: 1}, impl.Vec{X: -2, Y: -1}, []int{2, 6, 10, 402, -2, -6, math.MinInt + 2, math.MaxInt - 1}},
		{"to the right", impl.Vec{X: 2, Y: 1}, impl.Vec{X: 1, Y: -2}, []int{3, 7, 11, 403, -1, -5, math.MinInt + 3, math.MaxInt}},
		{"the axis to the right", impl.Vec{X: 5}, impl.Vec{Y: 5}, []int{1, -3}},
		{"the axis to the right, back", impl.Vec{X: 5}, impl.Vec{X: -5}, []int{2, -2}},
		{"the axis to the right, to the right", impl.Vec{X: 5}, impl.Vec{Y: -5}, []int{3, -1}},
		{"the axis upward", impl.Vec{Y: 7}, impl.Vec{X: -7}, []int{1, -3}},
		{"the axis to the left", impl.Vec{X: -1}, impl.Vec{Y: -1}, []int{1, -3}},
		{"the axis downward", impl.Vec{Y: -1}, impl.Vec{X: 1}, []int{1, -3}},
		{"the zero vector", impl.Vec{}, impl.Vec{}, turnCounts()},
		{"an end of the range", impl.Vec{X: impl.MaxCoord}, impl.Vec{Y: impl.MaxCoord}, []int{1, 5}},
		{"the other end of the range", impl.Vec{X: -impl.MaxCoord}, impl.Vec{Y: -impl.MaxCoord}, []int{1, 5}},
		{"a corner of the range", impl.Vec{X: impl.MaxCoord, Y: -impl.MaxCoord}, impl.Vec{X: impl.MaxCoord, Y: impl.MaxCoord}, []int{1, 5}},
		{"a corner of the range, back", impl.Vec{X: impl.MaxCoord, Y: -impl.MaxCoord}, impl.Vec{X: -impl.MaxCoord, Y: impl.MaxCoord}, []int{2, -2}},
	}
	for _, c := range cases {
		for _, k := range c.counts {
			if got := impl.TurnVec(c.v, k); got != c.want {
				t.Errorf("%s: TurnVec(%v, %d) = %v, want %v", c.name, c.v, k, got, c.want)
			}
		}
	}
}

func sampleVecs() []impl.Vec {
	random := rand.New(rand.NewSource(90))
	return slices.Concat(edgeVecs(), gridOf(impl.Vec{X: -2, Y: -2}, impl.Vec{X: 2, Y: 2}), randomVecs(random, 200, impl.MaxCoord))
}

func TestTurnVecTurnsByQuarters(t *testing.T) {
	for _, v := range sampleVecs() {
		for _, k := range slices.Concat(turnCounts(), sampleInts()) {
			if got, want := impl.TurnVec(v, k), turnedVec(v, k); got != want {
				t.Fatalf("TurnVec(%v, %d) = %v, want %v", v, k, got, want)
			}
		}
	}
}

func TestTurnVecRefusesWhatIsNoVector(t *testing.T) {
	for _, bad := range badVecs() {
		for _, k := range turnCounts() {
			if got := impl.TurnVec(bad, k); got != (impl.Vec{}) {
				t.Errorf("TurnVec(%v, %d) = %v", bad, k, got)
			}
		}
	}
}

// P4: four quarter turns change nothing, a turn leads to the left and keeps the length, and turns add up.
func TestQuarterTurnsOfVectors(t *testing.T) {
	for _, v := range sampleVecs() {
		at := v
		for range 4 {
			next := impl.TurnVec(at, 1)
			if square := squareApart(impl.Vec{}, v); impl.Turn(impl.Vec{}, at, next) != square || squareApart(impl.Vec{}, next) != square {
				t.Fatalf("a quarter turn leads from %v to %v", at, next)
			}
			if back := impl.TurnVec(next, -1); back != at || impl.TurnVec(next, 3) != at {
				t.Fatalf("a quarter turn back leads from %v to %v", next, back)
			}
			at = next
		}
		if at != v {
			t.Fatalf("four quarter turns lead from %v to %v", v, at)
		}
		for _, k := range turnCounts() {
			for _, n := range []int{0, 1, 2, -1, math.MinInt, math.MaxInt} {
				if got, want := impl.TurnVec(impl.TurnVec(v, k), n), impl.TurnVec(v, quarters(k)+quarters(n)); got != want {
					t.Fatalf("turns by %d and %d lead from %v to %v, want %v", k, n, v, got, want)
				}
			}
		}
	}
}

func TestTurnPolygon(t *testing.T) {
	triangle := vecs(1, 0, 5, 2, 1, 4)
	cases := []struct {
		name    string
		l, want []impl.Vec
		k       int
	}{
		{"no turn", triangle, triangle, 0},
		{"to the left", triangle, vecs(0, 1, -2, 5, -4, 1), 1},
		{"half a turn", triangle, vecs(-1, 0, -5, -2, -1, -4), 2},
		{"to the right", triangle, vecs(0, -1, 2, -5, 4, -1), 3},
		{"to the right by -1", triangle, vecs(0, -1, 2, -5, 4, -1), -1},
		{"a full turn", triangle, triangle, 4},
		{"a full turn back", triangle, triangle, -4},
		{"the least int", triangle, triangle, math.MinInt},
		{"the greatest int", triangle, vecs(0, -1, 2, -5, 4, -1), math.MaxInt},
		{"a square at the origin", smallSquare(), vecs(0, 0, 0, 2, -2, 2, -2, 0), 1},
		{"the largest square", largestSquare(), vecs(1000, -1000, 1000, 1000, -1000, 1000, -1000, -1000), 1},
		{"no corner", nil, nil, 1},
		{"an empty list", []impl.Vec{}, nil, 2},
		{"one corner", vecs(-3, 5), vecs(-5, -3), 1},
		{"two corners", vecs(0, 0, 1000, -1000), vecs(0, 0, -1000, 1000), 2},
		{"clockwise corners, equal ones too", vecs(0, 2, 1, 1, 1, 1, 0, 0), vecs(2, 0, 1, -1, 1, -1, 0, 0), 3},
		{"corners on a line", vecs(0, 0, 1, 0, 2, 0), vecs(0, 0, 0, 1, 0, 2), 1},
		{"more than MaxCorners", slices.Repeat(vecs(3, -4), 100), slices.Repeat(vecs(4, 3), 100), 1},
	}
	for _, c := range cases {
		if got := impl.TurnPolygon(c.l, c.k); !slices.Equal(got, c.want) {
			t.Errorf("%s: %v, want %v", c.name, got, c.want)
		}
	}
}

func TestTurnPolygonTurnsEveryCorner(t *testing.T) {
	found := map[bool]int{}
	for _, l := range sampleLists() {
		for _, k := range turnCounts() {
			want := turnedList(l, k)
			if !areInRange(l) {
				want = nil
			}
			if got := impl.TurnPolygon(l, k); !slices.Equal(got, want) {
				t.Fatalf("TurnPolygon(%v, %d) = %v, want %v", l, k, got, want)
			}
		}
		found[areInRange(l)]++
	}
	if found[true] < 100 || found[false] < 100 {
		t.Errorf("the lists are too much alike: %v", found)
	}
}

func TestTurnPolygonRefusesACornerOutOfRange(t *testing.T) {
	for _, bad := range badVecs() {
		for i := range len(smallSquare()) + 1 {
			l := slices.Insert(smallSquare(), i, bad)
			for _, k := range []int{0, 1, 2, 3, 4, -1, math.MinInt, math.MaxInt} {
				if got := impl.TurnPolygon(l, k); len(got) != 0 {
					t.Errorf("TurnPolygon(%v, %d) = %v", l, k, got)
				}
			}
		}
	}
}

// P4: four quarter turns change nothing, and in between it is a polygon of the same size with its points turned.
func TestQuarterTurnsOfPolygons(t *testing.T) {
	random := rand.New(rand.NewSource(91))
	for _, l := range samplePolygons() {
		points := slices.DeleteFunc(pointsAlong(random, l), isZeroPoint)[:10]
		at := l
		for k := range 4 {
			if !impl.IsPolygon(at) || impl.DoubleArea(at) != impl.DoubleArea(l) || !slices.Equal(at, impl.TurnPolygon(l, k)) {
				t.Fatalf("%v after %d quarter turns is %v", l, k, at)
			}
			if back := impl.TurnPolygon(at, -k); !slices.Equal(back, l) {
				t.Fatalf("%v after %d quarter turns back is %v", at, k, back)
			}
			for _, p := range points {
				q := bigPointOf(p).turned(k).point()
				if got, want := impl.ContainsPoint(at, q), impl.ContainsPoint(l, p); got != want {
					t.Fatalf("the place of %v is %d in %v, and after %d quarter turns of both it is %d", p, want, l, k, got)
				}
			}
			at = impl.TurnPolygon(at, 1)
		}
		if !slices.Equal(at, l) || !slices.Equal(impl.TurnPolygon(l, 2), impl.NegatePolygon(l)) {
			t.Fatalf("%v after four quarter turns is %v", l, at)
		}
	}
}

func TestReachSquare(t *testing.T) {
	cases := []struct {
		name string
		l    []impl.Vec
		want int
	}{
		{"around the origin", vecs(-1, -1, 1, -1, 1, 1, -1, 1), 2},
		{"around the origin, farthest to the left", vecs(-7, 0, 1, -3, 2, 2), 49},
		{"around the origin, farthest downward", vecs(-3, 0, 1, -9, 2, 2), 82},
		{"a corner at the origin", smallSquare(), 8},
		{"the smallest triangle", vecs(0, 0, 1, 0, 0, 1), 1},
		{"the origin on an edge", vecs(-3, 0, 1, 0, 0, 5), 25},
		{"apart from the origin", vecs(5, 7, 9, 8, 6, 20), 436},
		{"apart from it, on the other side", vecs(-5, -7, -6, -20, -4, -19), 436},
		{"the farthest corner has neither the greatest X nor the greatest Y", vecs(0, 0, 10, 0, 8, 8, 0, 10), 128},
		{"all corners at the same distance", vecs(3, 4, -3, 4, -4, -3, 0, -5, 5, 0), 25},
		{"the largest square", largestSquare(), 2000000},
		{"the ends of the range", vecs(-1000, 0, 0, -1000, 1000, 0, 0, 1000), 1000000},
		{"at a corner of the range", vecs(1000, 1000, 999, 1000, 1000, 999), 2000000},
		{"at another corner of the range", vecs(-1000, 1000, -1000, 999, -999, 1000), 2000000},
	}
	for _, c := range cases {
		for k := range c.l {
			if got := impl.ReachSquare(startedAt(c.l, k)); got != c.want {
				t.Errorf("%s: %d, want %d", c.name, got, c.want)
			}
		}
	}
}

func TestReachSquareRefusesWhatIsNoPolygon(t *testing.T) {
	for name, lists := range badPolygons() {
		for _, l := range lists {
			if got := impl.ReachSquare(l); got != 0 {
				t.Errorf("%s: ReachSquare(%v) = %d", name, l, got)
			}
		}
	}
}

// P4: whatever its heading, the points of a robot stay within the disc, and one corner is as far away as the disc reaches.
func TestATurnedRobotStaysWithinItsDisc(t *testing.T) {
	random := rand.New(rand.NewSource(92))
	center := bigPointOf(origin())
	for _, l := range samplePolygons() {
		reach := impl.ReachSquare(l)
		if !slices.ContainsFunc(l, func(v impl.Vec) bool { return squareApart(impl.Vec{}, v) == reach }) {
			t.Fatalf("ReachSquare(%v) = %d", l, reach)
		}
		p := pointIn(random, l)
		for h := range 4 {
			turned := impl.TurnPolygon(l, h)
			if got := impl.ReachSquare(turned); got != reach {
				t.Fatalf("the reach of %v is %d, and that of %v is %d", l, reach, turned, got)
			}
			for _, q := range []bigPoint{p.turned(h), pointIn(random, turned)} {
				way := center.wayTo(q)
				if dot(way, way).Cmp(big.NewRat(int64(reach), 1)) > 0 || impl.ContainsPoint(turned, q.point()) < 0 {
					t.Fatalf("%v is out of the reach %d of %v, or not in it", q, reach, turned)
				}
			}
			if !impl.DiscTouches(turned, origin(), reach) {
				t.Fatalf("the disc around the origin does not touch %v", turned)
			}
		}
	}
}

// P4: where the disc touches nothing, the robot touches nothing either, whatever its heading.
func TestARobotTouchesNothingThatItsDiscDoesNotTouch(t *testing.T) {
	random := rand.New(rand.NewSource(93))
	type kind struct{ disc, robot bool }
	found := map[kind]int{}
	var small [][]impl.Vec
	for _, l := range samplePolygons() {
		if impl.ReachSquare(l) <= 400 {
			small = append(small, l)
		}
	}
	for range 3000 {
		robot, obstacle := small[random.Intn(len(small))], small[random.Intn(len(small))]
		at := randomVecs(random, 1, 15)[0]
		disc, touches := impl.DiscTouches(obstacle, impl.PointOf(at), impl.ReachSquare(robot)), false
		for h := range 4 {
			touches = touches || impl.Touches(movedBy(impl.TurnPolygon(robot, h), at), obstacle)
		}
		if touches && !disc {
			t.Fatalf("the robot %v at %v touches %v, and its disc does not", robot, at, obstacle)
		}
		found[kind{disc, touches}]++
	}
	if found[kind{true, true}] < 100 || found[kind{true, false}] < 100 || found[kind{false, false}] < 100 {
		t.Errorf("the robots are too much alike: %v", found)
	}
}

func TestNextHeading(t *testing.T) {
	left, right := [4]int{1, 2, 3, 0}, [4]int{3, 0, 1, 2}
	for h := range 4 {
		if got, back := impl.NextHeading(h, 1), impl.NextHeading(h, -1); got != left[h] || back != right[h] {
			t.Errorf("the headings after %d are %d to the left and %d to the right", h, got, back)
		}
		for _, turn := range badTurns() {
			if got := impl.NextHeading(h, turn); got != -1 {
				t.Errorf("NextHeading(%d, %d) = %d", h, turn, got)
			}
		}
	}
	for _, h := range badHeadings() {
		for _, turn := range append(badTurns(), 1, -1) {
			if got := impl.NextHeading(h, turn); got != -1 {
				t.Errorf("NextHeading(%d, %d) = %d", h, turn, got)
			}
		}
	}
}

// P4: the next heading is that of a vector, and of a robot, that is turned once more.
func TestNextHeadingIsThatAfterATurn(t *testing.T) {
	for h := range 4 {
		for _, turn := range []int{1, -1} {
			next := impl.NextHeading(h, turn)
			for _, v := range sampleVecs() {
				if got, want := impl.TurnVec(v, next), impl.TurnVec(impl.TurnVec(v, h), turn); got != want {
					t.Fatalf("%v has turned to %v with heading %d and is turned by %d to %v", v, impl.TurnVec(v, h), h, turn, got)
				}
			}
			if got, want := impl.TurnPolygon(heptagon(), next), impl.TurnPolygon(impl.TurnPolygon(heptagon(), h), turn); !slices.Equal(got, want) {
				t.Errorf("a robot with heading %d is %v after a turn by %d, want %v", h, got, turn, want)
			}
		}
	}
}

func TestTurnsBetween(t *testing.T) {
	none, left, right, half := []int{}, []int{1}, []int{-1}, []int{1, 1}
	wanted := [4][4][]int{{none, left, half, right}, {right, none, left, half}, {half, right, none, left}, {left, half, right, none}}
	for g, row := range wanted {
		for h, want := range row {
			if got := impl.TurnsBetween(g, h); !slices.Equal(got, want) {
				t.Errorf("TurnsBetween(%d, %d) = %v, want %v", g, h, got, want)
			}
		}
	}
	for _, bad := range badHeadings() {
		for _, h := range append(badHeadings(), 0, 1, 2, 3) {
			if got, back := impl.TurnsBetween(bad, h), impl.TurnsBetween(h, bad); len(got) != 0 || len(back) != 0 {
				t.Errorf("TurnsBetween(%d, %d) = %v, and exchanged %v", bad, h, got, back)
			}
		}
	}
}

// P4: turns lead from one heading to the other, and no list of fewer turns does.
func TestTurnsBetweenAreTheFewest(t *testing.T) {
	var lists [][]int
	forAllTexts("+-", 3, func(s string) {
		var turns []int
		for _, sign := range s {
			turns = append(turns, map[rune]int{'+': 1, '-': -1}[sign])
		}
		lists = append(lists, turns)
	})
	headingAfter := func(h int, turns []int) int {
		for _, turn := range turns {
			h = impl.NextHeading(h, turn)
		}
		return h
	}
	for g := range 4 {
		for h := range 4 {
			turns := impl.TurnsBetween(g, h)
			if got := headingAfter(g, turns); got != h {
				t.Errorf("the turns %v lead from %d to %d, want %d", turns, g, got, h)
			}
			for _, other := range lists {
				if len(other) < len(turns) && headingAfter(g, other) == h {
					t.Errorf("%v leads from %d to %d with fewer turns than %v", other, g, h, turns)
				}
			}
		}
	}
}

func TestDiscTouches(t *testing.T) {
	square, triangle := vecs(-1, -1, 1, -1, 1, 1, -1, 1), vecs(0, 0, 4, 0, 0, 4)
	cases := []struct {
		name  string
		l     []impl.Vec
		p     string
		least int
	}{
		{"around a corner", square, "1,1", 0},
		{"around another corner", triangle, "0,4", 0},
		{"around a point inside", square, "0,0", 0},
		{"around a point inside with fractions", square, "1/2,-1/3", 0},
		{"around a point just inside", square, "999999/1000000,0", 0},
		{"around a point on an edge", square, "1,1/7", 0},
		{"around a point on a slanting edge", triangle, "1/2,7/2", 0},
		{"around a point just outside", square, "1000001/1000000,0", 1},
		{"around a point just outside of a corner", square, "1000001/1000000,-1000001/1000000", 1},
		{"an edge", square, "4,0", 9},
		{"the first edge", square, "1/3,-3", 4},
		{"the last edge", square, "-3,1/2", 4},
		{"an edge, just not at 9", square, "4000001/1000000,0", 10},
		{"an edge, just within 9", square, "3999999/1000000,0", 9},
		{"an edge, at a fraction", square, "-5/2,-1/2", 3},
		{"a slanting edge", triangle, "3,3", 2},
		{"a slanting edge at half", triangle, "3,2", 1},
		{"a slanting edge at a half and more", triangle, "7/2,7/2", 5},
		{"a corner", square, "4,5", 25},
		{"a corner of a triangle", triangle, "9,1", 26},
		{"a corner, just not at 25", square, "4,5000001/1000000", 26},
		{"a corner, just within 25", square, "4,4999999/1000000", 25},
		{"a corner straight ahead of an edge", square, "3,1", 4},
		{"far away", square, "-1000,1000", 1996002},
		{"at the corner of the range", largestSquare(), "1000,1000", 0},
		{"beyond a side of the range", largestSquare(), "-1000,1003", 9},
		{"beyond a corner of the range", largestSquare(), "-1003,1004", 25},
		{"from one corner of the range to another", vecs(999, 999, 1000, 999, 1000, 1000), "-1000,-1000", 7992002},
		{"as far as the greatest int reaches", square, "3037000500,0", 9223372030926249001},
		{"just within the greatest int", square, "1518500250488024846143/500000000000,0", math.MaxInt},
	}
	for _, c := range cases {
		p := pointsOf(t, c.p)[0]
		for k := range c.l {
			l := startedAt(c.l, k)
			for _, n := range []int{c.least, c.least + 1, 2*c.least + 1, math.MaxInt - 1, math.MaxInt} {
				if n >= c.least && !impl.DiscTouches(l, p, n) {
					t.Errorf("%s: a disc of %d does not touch", c.name, n)
				}
			}
			for _, n := range []int{c.least - 1, c.least / 2, 0, -1, -c.least, math.MinInt, math.MinInt + 1} {
				if n < c.least && impl.DiscTouches(l, p, n) {
					t.Errorf("%s: a disc of %d touches", c.name, n)
				}
			}
		}
	}
}

func TestDiscTouchesNothingThatIsTooFarAway(t *testing.T) {
	square := vecs(-1, -1, 1, -1, 1, 1, -1, 1)
	for _, p := range pointsOf(t, "3037000500976049692287/1000000000000,0 3037000501,1 0,9223372036854775807 -9223372036854775808,1/2 12345678901234567890123456789,-1/3") {
		for _, n := range []int{math.MaxInt, math.MaxInt - 1, 1 << 62, 0, -1, math.MinInt} {
			if impl.DiscTouches(square, p, n) {
				t.Errorf("the disc of %d around %s touches", n, impl.FormatPoint(p))
			}
		}
	}
}

// squaresAround are squares of discs that just touch and just do not touch, and others.
func squaresAround(distance *big.Rat) []int {
	l := []int{0, -1, math.MaxInt}
	if below := new(big.Int).Quo(distance.Num(), distance.Denom()); below.IsInt64() && below.Int64() < math.MaxInt {
		n := int(below.Int64())
		l = append(l, n-1, n, n+1)
	}
	return l
}

// checkDisc compares with the exact distance, and counts the kinds of discs by the fraction that SquareToPolygon finds.
func checkDisc(t *testing.T, l []impl.Vec, p bigPoint, found map[string]int) {
	t.Helper()
	distance, kind := exactBetween(l, p, p), kindOf(wantedToPolygon(l, p))
	for _, n := range squaresAround(distance) {
		want := distance.Cmp(big.NewRat(int64(n), 1)) <= 0
		if got := impl.DiscTouches(l, p.point(), n); got != want {
			t.Fatalf("DiscTouches(%v, %s, %d) = %v", l, impl.FormatPoint(p.point()), n, got)
		}
		if want {
			found["touches, "+kind]++
		} else {
			found[kind]++
		}
	}
}

// P15: polygons and points of a small grid, and points halfway between.
func TestDiscTouchesOnAGrid(t *testing.T) {
	found := map[string]int{}
	for i, l := range gridPolygons() {
		for k, v := range gridOf(impl.Vec{X: -3, Y: -3}, impl.Vec{X: 7, Y: 7}) {
			if (i+k)%4 != 0 {
				continue
			}
			p := bigPoint{big.NewRat(int64(v.X), 2), big.NewRat(int64(v.Y), 2)}
			checkDisc(t, l, p, found)
		}
	}
	if found["positive"] < 1000 || found["touches, positive"] < 1000 || found["touches, 0"] < 1000 {
		t.Errorf("the discs are too much alike: %v", found)
	}
}

// longPointAt has long fractions and is at most 1 to the right of v or to its left, and at most 1 above or below it.
func longPointAt(random *rand.Rand, v impl.Vec) bigPoint {
	near := func(n int) *big.Rat {
		limbs := 5 + random.Intn(18)
		part := new(big.Rat).SetFrac(bigOf(randomNat(random, limbs)), bigOf(unit(limbs)))
		return along(part, 1-2*random.Intn(2), n)
	}
	return bigPoint{near(v.X), near(v.Y)}
}

// P15: whole numbers and fractions of all lengths.
func TestDiscTouchesAsTheDistanceSays(t *testing.T) {
	random := rand.New(rand.NewSource(94))
	found := map[string]int{}
	for _, l := range fewPolygons() {
		points := slices.DeleteFunc(pointsAlong(random, l), isZeroPoint)
		for range 3 {
			for _, p := range []bigPoint{bigPointOf(points[random.Intn(len(points))]), longPointAt(random, l[random.Intn(len(l))])} {
				checkDisc(t, l, p, found)
			}
		}
		for _, q := range []impl.Point{smallPoint(random), impl.PointOf(randomVec(random)), impl.PointOf(l[0])} {
			p := bigPointOf(q)
			checkDisc(t, l, p, found)
		}
	}
	for _, kind := range []string{"too long", "touches, too long", "positive", "touches, positive", "touches, 0"} {
		if found[kind] < 500 {
			t.Errorf("the discs are too much alike: %v", found)
		}
	}
}

// The length of the fraction of a distance does not count: a center outside is answered for exactly.
func TestDiscTouchesAtTheLimitOfLimbs(t *testing.T) {
	triangle := vecs(0, 0, 1, 0, 0, 1)
	const never = -1
	zero, top := impl.RatFromInt(0), wholeOf(longest())
	over11, over12 := fraction(false, []int{1}, unit(11)), fraction(false, []int{1}, unit(12))
	point := func(x, y impl.Rat) impl.Point { return impl.Point{X: x, Y: y} }
	cases := []struct {
		name  string
		p     impl.Point
		least int
	}{
		{"a square of 23 limbs", point(zero, impl.RatNeg(over11)), 1},
		{"a square of 25 limbs", point(zero, impl.RatNeg(over12)), 1},
		{"a square of 25 limbs along X", point(impl.RatNeg(over12), zero), 1},
		{"the least fraction outside", point(impl.RatNeg(fraction(false, []int{1}, longest())), zero), 1},
		{"the least fraction outside, in both coordinates", point(impl.RatNeg(fraction(false, []int{1}, longest())), fraction(true, []int{1}, unit(23))), 1},
		{"inside", point(over12, over12), 0},
		{"inside, at the limit", point(fraction(false, []int{1}, longest()), over12), 0},
		{"on an edge", point(over12, zero), 0},
		{"the greatest fraction", point(top, zero), never},
		{"the greatest fraction, in both coordinates", point(top, impl.RatNeg(top)), never},
		{"the least one", point(over11, impl.RatNeg(top)), never},
		{"a square of 23 limbs, far away", point(wholeOf(unit(11)), zero), never},
		{"a square of 25 limbs, far away", point(wholeOf(unit(12)), zero), never},
	}
	for _, c := range cases {
		for k := range triangle {
			for _, n := range []int{0, 1, 2, 1 << 40, math.MaxInt} {
				if got, want := impl.DiscTouches(startedAt(triangle, k), c.p, n), c.least != never && n >= c.least; got != want {
					t.Errorf("%s: with a disc of %d it is %v", c.name, n, got)
				}
			}
		}
	}
}

// beyond is n and, times the sign, 1 / (10^108 + 1): a valid fraction whose square is too long.
func beyond(n int, sign int) *big.Rat {
	den := new(big.Int).Add(bigOf(unit(12)), big.NewInt(1))
	return along(new(big.Rat).SetFrac(big.NewInt(1), den), sign, n)
}

// onCircle is a point with long fractions at a distance of exactly radius from v, downward and to the right.
func onCircle(v impl.Vec, radius int) bigPoint {
	n := bigOf(unit(6))
	square, one := new(big.Int).Mul(n, n), big.NewInt(1)
	den := new(big.Int).Add(square, one)
	x := new(big.Rat).SetFrac(new(big.Int).Sub(square, one), den)
	y := new(big.Rat).SetFrac(new(big.Int).Lsh(n, 1), den)
	return bigPoint{along(x, radius, v.X), along(y, -radius, v.Y)}
}

// P4: the squares are just enough, and one less is just not; SquareToPolygon has no fraction for any of the centers.
func TestDiscTouchesAroundALongPoint(t *testing.T) {
	triangle := vecs(0, 0, 4, 0, 0, 4)
	at := func(x, y *big.Rat) bigPoint { return bigPoint{x, y} }
	cases := []struct {
		name  string
		p     bigPoint
		least int
	}{
		{"a corner, at exactly 25", onCircle(impl.Vec{X: 4}, 5), 25},
		{"a corner, at exactly 1", onCircle(impl.Vec{X: 4}, 1), 1},
		{"a corner, at exactly the greatest square of an int", onCircle(impl.Vec{X: 4}, 3037000499), 3037000499 * 3037000499},
		{"a corner, just beyond 25", at(beyond(9, 1), beyond(0, 0)), 26},
		{"a corner, just within 25", at(beyond(9, -1), beyond(0, 0)), 25},
		{"a corner, just beyond 25, aslant", at(beyond(7, 1), beyond(-4, -1)), 26},
		{"a corner, just within 25, aslant", at(beyond(7, -1), beyond(-4, 1)), 25},
		{"a corner, just within the greatest square and one more", at(beyond(3037000503, 1), beyond(0, -1)), 3037000499*3037000499 + 1},
		{"a corner, just beside an edge", at(beyond(4, 1), beyond(-3, 0)), 10},
		{"an edge, just beside a corner", at(beyond(4, -1), beyond(-3, 0)), 9},
		{"an edge, at exactly 9", at(beyond(2, 1), beyond(-3, 0)), 9},
		{"an edge, just beyond 9", at(beyond(2, 1), beyond(-3, -1)), 10},
		{"an edge, just within 9", at(beyond(2, 1), beyond(-3, 1)), 9},
		{"the last edge, at exactly 4", at(beyond(-2, 0), beyond(1, 1)), 4},
		{"the last edge, just beyond 4", at(beyond(-2, -1), beyond(1, 1)), 5},
		{"the last edge, just within 4", at(beyond(-2, 1), beyond(1, 1)), 4},
		{"a slanting edge, at exactly 8", at(beyond(4, 1), beyond(4, -1)), 8},
		{"a slanting edge, just beyond 8", at(beyond(4, 1), beyond(4, 0)), 9},
		{"a slanting edge, just within 8", at(beyond(4, -1), beyond(4, 0)), 8},
		{"an edge, just outside", at(beyond(1, 1), beyond(0, -1)), 1},
	}
	for _, c := range cases {
		if square := wantedToPolygon(triangle, c.p); square != nil || !isFitting(c.p) {
			t.Errorf("%s: the fractions are not as long as they should be: %v", c.name, square)
		}
		for k := range 4 {
			p := c.p.turned(k).point()
			for i := range triangle {
				l := startedAt(turnedList(triangle, k), i)
				if !impl.DiscTouches(l, p, c.least) || !impl.DiscTouches(l, p, math.MaxInt) {
					t.Errorf("%s: a disc of %d does not touch", c.name, c.least)
				}
				if impl.DiscTouches(l, p, c.least-1) || impl.DiscTouches(l, p, -1) {
					t.Errorf("%s: a disc of %d touches", c.name, c.least-1)
				}
			}
		}
	}
}

// P4: the disc around any point of a polygon touches it, and so does one that reaches a point of it.
func TestDiscTouchesIfItReachesAPoint(t *testing.T) {
	random := rand.New(rand.NewSource(95))
	for _, l := range samplePolygons() {
		for _, corner := range l {
			if !impl.DiscTouches(l, impl.PointOf(corner), 0) || !impl.DiscTouches(l, impl.PointOf(corner), random.Int()) {
				t.Fatalf("a disc around the corner %v does not touch %v", corner, l)
			}
		}
		q, center := pointIn(random, l), bigPointOf(smallPoint(random))
		if !impl.DiscTouches(l, q.point(), 0) {
			t.Fatalf("a disc around %v does not touch %v", q, l)
		}
		way := center.wayTo(q)
		apart := dot(way, way)
		reach := int(new(big.Int).Quo(apart.Num(), apart.Denom()).Int64()) + 1
		if !impl.DiscTouches(l, center.point(), reach) {
			t.Fatalf("the disc of %d around %v does not touch %v", reach, center, l)
		}
	}
}

// P4: a greater disc touches what a smaller one touches, and a disc touches what is turned together with it.
func TestGreaterDiscsTouchWhatSmallerOnesTouch(t *testing.T) {
	random := rand.New(rand.NewSource(96))
	found := map[bool]int{}
	for _, l := range fewPolygons() {
		points := slices.DeleteFunc(pointsAlong(random, l), isZeroPoint)
		points = append(points[:5], smallPoint(random), impl.PointOf(randomVec(random)), randomPoint(random, 1+random.Intn(impl.MaxRat)))
		for _, p := range points {
			touched := false
			for _, n := range []int{math.MinInt, -1, 0, 1, 2, 9, 100, 2000, 70000, 3000000, 100000000, 1 << 50, math.MaxInt} {
				touches := impl.DiscTouches(l, p, n)
				if touched && !touches || touches && n < 0 {
					t.Fatalf("the disc of %d around %v touches %v: %v", n, p, l, touches)
				}
				touched = touches
				found[touches]++
			}
			n, k := random.Intn(1000000), random.Intn(4)
			if impl.DiscTouches(l, p, n) != impl.DiscTouches(impl.TurnPolygon(l, k), bigPointOf(p).turned(k).point(), n) {
				t.Fatalf("the disc of %d around %v touches %v, or it does after %d quarter turns", n, p, l, k)
			}
		}
	}
	if found[true] < 2000 || found[false] < 2000 {
		t.Errorf("the discs are too much alike: %v", found)
	}
}

func TestDiscTouchesRefusesWhatIsNoPointOrPolygon(t *testing.T) {
	squares := []int{0, 1, 100, math.MaxInt, -1, math.MinInt}
	for _, bad := range badPoints() {
		for _, l := range [][]impl.Vec{smallSquare(), largestSquare(), vecs(5, 5, 6, 5, 5, 6), nil} {
			for _, n := range squares {
				if impl.DiscTouches(l, bad, n) {
					t.Errorf("DiscTouches(%v, %v, %d) is true", l, bad, n)
				}
			}
		}
	}
	for name, lists := range badPolygons() {
		for _, l := range lists {
			for _, p := range append(pointsOf(t, "0,0 1,1 1/2,1/3 1001,0 -900,900"), impl.Point{}) {
				for _, n := range squares {
					if impl.DiscTouches(l, p, n) {
						t.Errorf("%s: DiscTouches(%v, %v, %d) is true", name, l, p, n)
					}
				}
			}
		}
	}
}

func TestDiscTouchesRefusesNegativeSquares(t *testing.T) {
	for _, l := range [][]impl.Vec{smallSquare(), largestSquare(), vecs(0, 0, 1, 0, 0, 1)} {
		for _, p := range append(pointsOf(t, "0,0 1/2,1/3 1,1 -5,7"), impl.PointOf(l[0])) {
			for _, n := range []int{-1, -2, -100, math.MinInt, math.MinInt + 1} {
				if impl.DiscTouches(l, p, n) {
					t.Errorf("DiscTouches(%v, %v, %d) is true", l, p, n)
				}
			}
		}
	}
}

func TestHeadingFunctionsLeaveTheirArgumentsAlone(t *testing.T) {
	points := samplePoints()
	for i, l := range sampleLists() {
		row, inside := framedVecs(l)
		was := slices.Clone(row)
		rows, p := framedPoint(points[i%len(points)])
		wasRows, _ := framedPoint(points[i%len(points)])
		impl.ReachSquare(inside)
		impl.DiscTouches(inside, p, 10)
		for _, k := range []int{0, 1, 2, 3, 4, -1, math.MinInt} {
			overwriteVecs(impl.TurnPolygon(inside, k))
			if !slices.Equal(row, was) {
				t.Fatalf("TurnPolygon of %v by %d, or a write to its result, changed its argument", l, k)
			}
		}
		if !slices.EqualFunc(rows, wasRows, slices.Equal[[]int]) {
			t.Fatalf("DiscTouches of %v changed its point", l)
		}
	}
}

func TestHeadingResultsAreNewEachTime(t *testing.T) {
	for _, l := range sampleLists() {
		for k := range 4 {
			want := slices.Clone(impl.TurnPolygon(l, k))
			overwriteVecs(impl.TurnPolygon(l, k))
			if got := impl.TurnPolygon(l, k); !slices.Equal(got, want) {
				t.Fatalf("TurnPolygon(%v, %d) is %v after its last result was changed", l, k, got)
			}
		}
	}
	for g := range 4 {
		for h := range 4 {
			want := slices.Clone(impl.TurnsBetween(g, h))
			for other := range 4 {
				overwrite(impl.TurnsBetween(other, h))
			}
			if got := impl.TurnsBetween(g, h); !slices.Equal(got, want) {
				t.Errorf("TurnsBetween(%d, %d) is %v after other results were changed", g, h, got)
			}
		}
	}
}
