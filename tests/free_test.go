package tests

import (
	"math"
	"math/big"
	"math/rand"
	"slices"
	"strings"
	"testing"

	"loop.example/g00811/impl"
)

func headings() []int { return []int{0, 1, 2, 3} }

func boxOf(lowX, lowY, highX, highY int) impl.Box {
	return impl.Box{Low: impl.Vec{X: lowX, Y: lowY}, High: impl.Vec{X: highX, Y: highY}}
}

func rectangle(lowX, lowY, highX, highY int) []impl.Vec {
	return vecs(lowX, lowY, highX, lowY, highX, highY, lowX, highY)
}

// hallOf has a robot of 3 by 2 in a room of 20 by a height.
func hallOf(height int, obstacles ...[]impl.Vec) impl.Scene {
	return impl.Scene{High: impl.Vec{X: 20, Y: height}, Robot: rectangle(-1, -1, 2, 1), Obstacles: obstacles}
}

func hall() impl.Scene { return hallOf(10, rectangle(8, 3, 12, 7)) }

// placesOf reads points. A coordinate with a sign behind it is that much greater or less than a whole number, as beyond
// has it.
func placesOf(t *testing.T, s string) []bigPoint {
	t.Helper()
	coordinate := func(text string) *big.Rat {
		sign := 0
		if without := strings.TrimRight(text, "+-"); without != text {
			sign = map[string]int{"+": 1, "-": -1}[strings.TrimPrefix(text, without)]
			text = without
		}
		q, ok := new(big.Rat).SetString(text)
		if !ok {
			t.Fatalf("%q is no coordinate", text)
		}
		if sign == 0 {
			return q
		}
		return beyond(int(q.Num().Int64()), sign)
	}
	var l []bigPoint
	for _, part := range strings.Fields(s) {
		x, y, _ := strings.Cut(part, ",")
		l = append(l, bigPoint{coordinate(x), coordinate(y)})
	}
	return l
}

func (p bigPoint) plus(v impl.Vec) bigPoint { return bigPoint{along(p.x, 1, v.X), along(p.y, 1, v.Y)} }

func wantedRobot(s impl.Scene, h int) []impl.Vec {
	if !wantedScene(s) || h < 0 || h > 3 {
		return nil
	}
	return turnedList(s.Robot, h)
}

// wantedAreas merges the edges of every obstacle with those of the robot after half a turn.
func wantedAreas(s impl.Scene, h int) [][]impl.Vec {
	var areas [][]impl.Vec
	if robot := wantedRobot(s, h); robot != nil {
		for _, obstacle := range s.Obstacles {
			areas = append(areas, mergedSum(obstacle, turnedList(robot, 2)))
		}
	}
	return areas
}

// wantedLimits are the corners of the rectangle for the origin, even if the robot is too large for the room.
func wantedLimits(s impl.Scene, h int) (low, high impl.Vec) {
	least, greatest := wantedWidth(wantedRobot(s, h))
	return plus(s.Low, times(least, -1)), plus(s.High, times(greatest, -1))
}

// isBelow reports whether both coordinates of p are less than those of q.
func (p bigPoint) isBelow(q bigPoint) bool { return p.x.Cmp(q.x) < 0 && p.y.Cmp(q.y) < 0 }

func isWithinCorners(low, high impl.Vec, p bigPoint) bool {
	return bigPointOfVec(low).isBelow(p) && p.isBelow(bigPointOfVec(high))
}

// touchesFrom reports whether an edge of a robot that is moved by p meets an obstacle, or the obstacle is inside of it.
func touchesFrom(robot, obstacle []impl.Vec, p bigPoint) bool {
	for i, corner := range robot {
		if wantedMeeting(obstacle, p.plus(corner), p.plus(robot[(i+1)%len(robot)])) {
			return true
		}
	}
	return wantedPlace(robot, p.wayTo(bigPointOfVec(obstacle[0]))) >= 0
}

const (
	isFree       = "free"
	isNowhere    = "no robot"
	isNotInRoom  = "not in the room"
	isAtObstacle = "at an obstacle"
)

// wantedHindrance looks at the corners of the robot and of the obstacles only, not at the rectangle or a blocked area.
func wantedHindrance(s impl.Scene, h int, p bigPoint) string {
	robot := wantedRobot(s, h)
	if robot == nil {
		return isNowhere
	}
	for _, corner := range robot {
		if !isWithinCorners(s.Low, s.High, p.plus(corner)) {
			return isNotInRoom
		}
	}
	for _, obstacle := range s.Obstacles {
		if touchesFrom(robot, obstacle, p) {
			return isAtObstacle
		}
	}
	return isFree
}

// wantedWay is free if both ends are free and there is no first point of touch: there a corner of the robot would meet
// the obstacle, or a corner of the obstacle the robot. Otherwise met is a part of the way where it is not free.
func wantedWay(s impl.Scene, h int, p, q bigPoint) (free bool, met *big.Rat) {
	if wantedHindrance(s, h, p) != isFree {
		return false, new(big.Rat)
	}
	if wantedHindrance(s, h, q) != isFree {
		return false, big.NewRat(1, 1)
	}
	robot := wantedRobot(s, h)
	for _, obstacle := range s.Obstacles {
		for _, corner := range robot {
			if first, last := partInside(obstacle, p.plus(corner), q.plus(corner)); first.Cmp(last) <= 0 {
				return false, first
			}
		}
		for _, corner := range obstacle {
			at := bigPointOfVec(corner)
			if first, last := partInside(robot, p.wayTo(at), q.wayTo(at)); first.Cmp(last) <= 0 {
				return false, last
			}
		}
	}
	return true, nil
}

func wantedCorners(s impl.Scene, h int, p bigPoint) []impl.Point {
	var l []impl.Point
	for _, corner := range wantedRobot(s, h) {
		moved := wantedMove(p, corner)
		if isZeroPoint(moved) {
			return nil
		}
		l = append(l, moved)
	}
	return l
}

// crowdedScenes have rooms that are not much larger than their robots, with obstacles in them.
func crowdedScenes(seed int64, n int) []impl.Scene {
	random := rand.New(rand.NewSource(seed))
	var l []impl.Scene
	for range n {
		low := randomVecs(random, 1, 100)[0]
		size := []int{2, 4, 20}[random.Intn(3)]
		wide, high := 1+random.Intn(10*size), 1+random.Intn(10*size)
		s := impl.Scene{Low: low, High: plus(low, impl.Vec{X: wide, Y: high}), Robot: randomSolid(random, 1+random.Intn(size))}
		if random.Intn(4) > 0 {
			s.Robot = movedBy(s.Robot, times(s.Robot[0], -1))
		}
		for range random.Intn(5) {
			at := plus(low, impl.Vec{X: random.Intn(wide + 1), Y: random.Intn(high + 1)})
			s.Obstacles = append(s.Obstacles, movedBy(randomSolid(random, 1+random.Intn(size)), at))
		}
		if wantedScene(s) {
			l = append(l, s)
		}
	}
	return l
}

// placesIn are in the room, at the border of the rectangle and of the blocked areas, and near to these borders.
func placesIn(random *rand.Rand, s impl.Scene, h int) []bigPoint {
	var l []bigPoint
	for range 3 {
		part := func(low, high int) *big.Rat { return along(big.NewRat(random.Int63n(1001), 1000), high-low, low) }
		l = append(l, bigPoint{part(s.Low.X, s.High.X), part(s.Low.Y, s.High.Y)})
	}
	low, high := wantedLimits(s, h)
	for _, area := range append(wantedAreas(s, h), rectangle(low.X, low.Y, high.X, high.Y)) {
		points := slices.DeleteFunc(pointsAlong(random, area), isZeroPoint)
		for range 3 {
			l = append(l, bigPointOf(points[random.Intn(len(points))]))
		}
	}
	return l
}

// waysIn lead from place to place, most of them from a free one to a free one, and along the edges of blocked areas and
// past their corners, where these are in the rectangle.
func waysIn(random *rand.Rand, s impl.Scene, h int) [][2]bigPoint {
	places := placesIn(random, s, h)
	low, high := wantedLimits(s, h)
	free := slices.DeleteFunc(slices.Clone(places), func(p bigPoint) bool { return wantedHindrance(s, h, p) != isFree })
	l := [][2]bigPoint{{places[0], places[0]}}
	for _, p := range places[:4] {
		l = append(l, [2]bigPoint{p, places[random.Intn(len(places))]})
	}
	for _, p := range free {
		l = append(l, [2]bigPoint{p, p}, [2]bigPoint{p, free[random.Intn(len(free))]}, [2]bigPoint{p, free[random.Intn(len(free))]})
	}
	for _, area := range wantedAreas(s, h) {
		segments := segmentsAt(random, area)
		for range 3 {
			l = append(l, segments[random.Intn(len(segments))])
		}
		for i, corner := range area {
			if !isWithinCorners(low, high, bigPointOfVec(corner)) {
				continue
			}
			past, v := beside(random, bigPointOfVec(corner)), bigPointOfVec(area[(i+1)%len(area)]).wayTo(bigPointOfVec(corner))
			across := bigPoint{v.y, new(big.Rat).Neg(v.x)}
			some := v.farther(across, big.NewRat(random.Int63n(7)-3, 4))
			for _, way := range []bigPoint{v, across, some} {
				l = append(l, [2]bigPoint{past.farther(way, big.NewRat(-1, 1+random.Int63n(9))), past.farther(way, big.NewRat(1, 1+random.Int63n(9)))})
			}
		}
	}
	return slices.DeleteFunc(l, func(way [2]bigPoint) bool { return !isFitting(way[0], way[1]) })
}

func TestRobotAt(t *testing.T) {
	triangle, apart := vecs(-1, -2, 3, -1, 1, 2), vecs(18, 18, 20, 18, 19, 20)
	cases := []struct {
		name string
		s    impl.Scene
		h    int
		want []impl.Vec
	}{
		{"heading 0", withRobot(triangle), 0, triangle},
		{"heading 1", withRobot(triangle), 1, vecs(2, -1, 1, 3, -2, 1)},
		{"heading 2", withRobot(triangle), 2, vecs(1, 2, -3, 1, -1, -2)},
		{"heading 3", withRobot(triangle), 3, vecs(-2, 1, -1, -3, 2, -1)},
		{"apart from the origin, heading 0", withRobot(apart), 0, apart},
		{"apart from the origin, heading 1", withRobot(apart), 1, vecs(-18, 18, -18, 20, -20, 19)},
		{"apart from the origin, heading 2", withRobot(apart), 2, vecs(-18, -18, -20, -18, -19, -20)},
		{"apart from the origin, heading 3", withRobot(apart), 3, vecs(18, -18, 18, -20, 20, -19)},
		{"the smallest scene", smallScene(), 1, vecs(0, 0, 0, 1, -1, 0)},
		{"the fullest scene", fullScene(), 3, vecs(-20, 20, -20, -20, 0, -20, 20, 0, 20, 20)},
		{"a heading of -1", withRobot(triangle), -1, nil},
		{"a heading of 4", withRobot(triangle), 4, nil},
		{"the zero scene", impl.Scene{}, 0, nil},
		{"no room", withRoom(0, 0, 0, 5), 0, nil},
		{"a bad obstacle", withObstacles(triangle, vecs(0, 0, 1, 0)), 0, nil},
		{"a bad table", withTables(vecs(0, 201)), 0, nil},
	}
	for _, c := range cases {
		if got := impl.RobotAt(c.s, c.h); !slices.Equal(got, c.want) {
			t.Errorf("%s: %v, want %v", c.name, got, c.want)
		}
	}
	for _, s := range allValidScenes() {
		for _, h := range append(badHeadings(), headings()...) {
			if got, want := impl.RobotAt(s, h), wantedRobot(s, h); !slices.Equal(got, want) {
				t.Errorf("RobotAt(%v, %d) = %v, want %v", s, h, got, want)
			}
		}
	}
}

func TestLimitsOf(t *testing.T) {
	apart := hallOf(10)
	apart.Robot = vecs(5, 5, 7, 5, 6, 8)
	room := func(lowX, lowY, highX, highY int) impl.Scene {
		s := hall()
		s.Low, s.High = impl.Vec{X: lowX, Y: lowY}, impl.Vec{X: highX, Y: highY}
		return s
	}
	cases := []struct {
		name string
		s    impl.Scene
		want [4]impl.Box
	}{
		{"a hall", hall(), [4]impl.Box{boxOf(1, 1, 18, 9), boxOf(1, 1, 19, 8), boxOf(2, 1, 19, 9), boxOf(1, 2, 19, 9)}},
		{"obstacles do not count", hallOf(10, rectangle(-50, -50, 50, 50)), [4]impl.Box{boxOf(1, 1, 18, 9), boxOf(1, 1, 19, 8), boxOf(2, 1, 19, 9), boxOf(1, 2, 19, 9)}},
		{"a room elsewhere", room(-7, 30, 13, 40), [4]impl.Box{boxOf(-6, 31, 11, 39), boxOf(-6, 31, 12, 38), boxOf(-5, 31, 12, 39), boxOf(-6, 32, 12, 39)}},
		{"a robot apart from its origin", apart, [4]impl.Box{boxOf(-5, -5, 13, 2), boxOf(8, -5, 25, 3), boxOf(7, 8, 25, 15), boxOf(-5, 7, 12, 15)}},
		{"a width of 1 with two headings", room(0, 0, 4, 10), [4]impl.Box{boxOf(1, 1, 2, 9), boxOf(1, 1, 3, 8), boxOf(2, 1, 3, 9), boxOf(1, 2, 3, 9)}},
		{"a width of 0 with two headings", room(0, 0, 3, 10), [4]impl.Box{{}, boxOf(1, 1, 2, 8), {}, boxOf(1, 2, 2, 9)}},
		{"a width of less than 0 with two headings, and of 0 with the others", room(0, 0, 2, 10), [4]impl.Box{}},
		{"a height of 1 with two headings", room(0, 0, 20, 4), [4]impl.Box{boxOf(1, 1, 18, 3), boxOf(1, 1, 19, 2), boxOf(2, 1, 19, 3), boxOf(1, 2, 19, 3)}},
		{"a height of 0 with two headings", room(0, 0, 20, 3), [4]impl.Box{boxOf(1, 1, 18, 2), {}, boxOf(2, 1, 19, 2), {}}},
		{"a height of less than 0 with two headings, and of 0 with the others", room(0, 0, 20, 2), [4]impl.Box{}},
		{"a width and a height of 1", room(5, 5, 9, 8), [4]impl.Box{boxOf(6, 6, 7, 7), {}, boxOf(7, 6, 8, 7), {}}},
		{"the least room", smallScene(), [4]impl.Box{}},
		{"the largest room", withRoom(-200, -200, 200, 200), [4]impl.Box{boxOf(-199, -198, 197, 198), boxOf(-198, -199, 198, 197), boxOf(-197, -198, 199, 198), boxOf(-198, -197, 198, 199)}},
		{"the zero scene", impl.Scene{}, [4]impl.Box{}},
		{"a room that is too far", room(0, 0, 201, 10), [4]impl.Box{}},
		{"no robot", withRobot(nil), [4]impl.Box{}},
		{"too many obstacles", hallOf(10, slices.Repeat([][]impl.Vec{smallSquare()}, 5)...), [4]impl.Box{}},
	}
	for _, c := range cases {
		for h, want := range c.want {
			if got, ok := impl.LimitsOf(c.s, h); got != want || ok != (want != impl.Box{}) {
				t.Errorf("%s: LimitsOf heading %d is %v, %v, want %v", c.name, h, got, ok, want)
			}
		}
	}
}

// P5: the origin lies strictly inside the rectangle exactly if the corners lie strictly inside the room.
func TestLimitsAreThoseOfTheCorners(t *testing.T) {
	random := rand.New(rand.NewSource(110))
	found := map[bool]int{}
	for i, s := range append(allValidScenes(), crowdedScenes(111, 200)...) {
		h := i % 4
		limits, ok := impl.LimitsOf(s, h)
		if ok != (limits != impl.Box{}) || ok && !bigPointOfVec(limits.Low).isBelow(bigPointOfVec(limits.High)) {
			t.Fatalf("LimitsOf(%v, %d) = %v, %v", s, h, limits, ok)
		}
		low, high := wantedLimits(s, h)
		middle := big.NewRat(1, 2)
		found[checkLimits(t, s, h, bigPoint{along(middle, 1, high.X-1), along(middle, 1, low.Y)})]++
		for _, p := range placesIn(random, s, h) {
			found[checkLimits(t, s, h, p)]++
		}
	}
	if found[true] < 1500 || found[false] < 1500 {
		t.Errorf("the places are too much alike: %v", found)
	}
}

func checkLimits(t *testing.T, s impl.Scene, h int, p bigPoint) bool {
	t.Helper()
	want := true
	for _, corner := range wantedRobot(s, h) {
		want = want && isWithinCorners(s.Low, s.High, p.plus(corner))
	}
	if limits, ok := impl.LimitsOf(s, h); (ok && impl.InBox(limits, p.point())) != want {
		t.Fatalf("%s is in the rectangle %v, %v of %v with heading %d, or it should be", impl.FormatPoint(p.point()), limits, ok, s, h)
	}
	return want
}

func TestBlockedAreas(t *testing.T) {
	square, triangle := rectangle(8, 3, 12, 7), vecs(0, 0, 4, 0, 0, 4)
	wedge := withRobot(vecs(0, 0, 2, 1, 1, 2))
	wedge.Obstacles = [][]impl.Vec{triangle}
	cases := []struct {
		name string
		s    impl.Scene
		want [4][][]impl.Vec
	}{
		{"a hall", hall(), [4][][]impl.Vec{{rectangle(6, 2, 13, 8)}, {rectangle(7, 1, 13, 8)}, {rectangle(7, 2, 14, 8)}, {rectangle(7, 2, 13, 9)}}},
		{"no obstacle", hallOf(10), [4][][]impl.Vec{}},
		{"a triangle", wedge, [4][][]impl.Vec{
			{vecs(-2, -1, -1, -2, 3, -2, 4, 0, 0, 4, -2, 3)}, {vecs(0, 0, 1, -2, 5, -2, 6, -1, 2, 3, 0, 4)},
			{vecs(0, 0, 4, 0, 6, 1, 1, 6, 0, 4)}, {vecs(-2, 1, 0, 0, 4, 0, 3, 2, -1, 6, -2, 5)},
		}},
		{"two obstacles in their order", hallOf(10, square, rectangle(1, 1, 2, 2)), [4][][]impl.Vec{
			{rectangle(6, 2, 13, 8), rectangle(-1, 0, 3, 3)}, {rectangle(7, 1, 13, 8), rectangle(0, -1, 3, 3)},
			{rectangle(7, 2, 14, 8), rectangle(0, 0, 4, 3)}, {rectangle(7, 2, 13, 9), rectangle(0, 0, 3, 4)},
		}},
		{"a room that is too narrow", hallOf(2, square), [4][][]impl.Vec{{rectangle(6, 2, 13, 8)}, {rectangle(7, 1, 13, 8)}, {rectangle(7, 2, 14, 8)}, {rectangle(7, 2, 13, 9)}}},
		{"the zero scene", impl.Scene{}, [4][][]impl.Vec{}},
		{"one bad obstacle of two", hallOf(10, square, reversed(square)), [4][][]impl.Vec{}},
		{"too many obstacles", hallOf(10, square, square, square, square, square), [4][][]impl.Vec{}},
		{"no room", hallOf(0, square), [4][][]impl.Vec{}},
	}
	for _, c := range cases {
		for h, want := range c.want {
			if got := impl.BlockedAreas(c.s, h); !slices.EqualFunc(got, want, slices.Equal) {
				t.Errorf("%s: BlockedAreas with heading %d are %v, want %v", c.name, h, got, want)
			}
		}
		for _, h := range badHeadings() {
			if got := impl.BlockedAreas(c.s, h); len(got) != 0 {
				t.Errorf("%s: BlockedAreas with heading %d are %v", c.name, h, got)
			}
		}
	}
}

func TestBlockedAreasAreSums(t *testing.T) {
	for _, s := range append(allValidScenes(), crowdedScenes(112, 500)...) {
		for _, h := range headings() {
			got, want := impl.BlockedAreas(s, h), wantedAreas(s, h)
			if !slices.EqualFunc(got, want, slices.Equal) {
				t.Fatalf("BlockedAreas(%v, %d) = %v, want %v", s, h, got, want)
			}
			for i, area := range got {
				if !impl.IsPolygon(area) || !slices.Equal(area, impl.ObstacleFor(impl.RobotAt(s, h), s.Obstacles[i])) {
					t.Fatalf("the area %d of %v is %v", i, s, area)
				}
			}
		}
	}
}

func TestInBox(t *testing.T) {
	box, all := boxOf(1, 2, 5, 9), boxOf(math.MinInt, math.MinInt, math.MaxInt, math.MaxInt)
	const least, most = "-9223372036854775808", "9223372036854775807"
	cases := []struct {
		name, points string
		b            impl.Box
		want         bool
	}{
		{"inside", "3,4 2,3 4,8 3/2,5/2 1000001/1000000,5 3,8999999/1000000", box, true},
		{"at the border", "1,4 5,4 3,2 3,9", box, false},
		{"at a corner", "1,2 5,2 5,9 1,9", box, false},
		{"just inside", "1+,4 5-,4 3,2+ 3,9- 1+,2+ 5-,9- 1+,9- 5-,2+", box, true},
		{"just outside", "1-,4 5+,4 3,2- 3,9+ 1-,2- 5+,9+ 1+,9+ 5+,9- 1-,2+ 1+,2-", box, false},
		{"outside", "0,4 6,4 3,1 3,10 0,0 6,10 -3,-4 1000,1000 1/2,5 3,19/2", box, false},
		{"a width of 1", "3/2,4 1+,4 2-,8", boxOf(1, 2, 2, 9), true},
		{"the border of a width of 1", "1,4 2,4 1,2 2,9 0,4 3,4", boxOf(1, 2, 2, 9), false},
		{"a width of 0", "1,4 1+,4 1-,4 0,4 2,4", boxOf(1, 2, 1, 9), false},
		{"a height of 0", "3,2 3,2+ 3,2- 3,1", boxOf(1, 2, 5, 2), false},
		{"a width of less than 0", "3,4 1,4 5,4 2,4 0,4 6,4", boxOf(5, 2, 1, 9), false},
		{"a height of less than 0", "3,4 3,2 3,9 3,5 3,0 3,10", boxOf(1, 9, 5, 2), false},
		{"both of less than 0", "3,4 0,0 6,10", boxOf(5, 9, 1, 2), false},
		{"the zero value", "0,0 0+,0+ 1,1 -1,-1", impl.Box{}, false},
		{"all ints", "0,0 3,4 1/2,-1/3 1000001,-5 9223372036854775806,-9223372036854775807 18446744073709551613/2,-18446744073709551615/2", all, true},
		{"the ends of all ints", least + ",0 " + most + ",0 0," + least + " 0," + most, all, false},
		{"beyond all ints", "9223372036854775808,0 -9223372036854775809,0 0,9223372036854775808 0,-9223372036854775809 99999999999999999999999,0", all, false},
		{"all ints exchanged", "0,0 1,1 " + least + "," + most, boxOf(math.MaxInt, math.MaxInt, math.MinInt, math.MinInt), false},
		{"the width of all ints exchanged", "0,0 1,1", boxOf(math.MaxInt, 0, math.MinInt, 5), false},
		{"the greatest int only", most + "," + most + " 0,0", boxOf(math.MaxInt, math.MaxInt, math.MaxInt, math.MaxInt), false},
		{"the least int only", least + "," + least + " 0,0", boxOf(math.MinInt, math.MinInt, math.MinInt, math.MinInt), false},
		{"up to the greatest int", "9223372036854775806,1 18446744073709551613/2,7", boxOf(math.MaxInt-2, 0, math.MaxInt, 8), true},
		{"from the least int", "3,-9223372036854775807 1,-18446744073709551615/2", boxOf(0, math.MinInt, 8, math.MinInt+2), true},
	}
	for _, c := range cases {
		for _, p := range placesOf(t, c.points) {
			if got := impl.InBox(c.b, p.point()); got != c.want {
				t.Errorf("%s: InBox(%v, %s) is %v", c.name, c.b, impl.FormatPoint(p.point()), got)
			}
		}
	}
}

func TestInBoxComparesEveryCoordinate(t *testing.T) {
	ends := []int{math.MinInt, math.MinInt + 1, -1001, -1, 0, 1, 2, 1000, math.MaxInt - 1, math.MaxInt}
	var places []*big.Rat
	for _, n := range ends {
		for _, sign := range []int{-1, 0, 1} {
			places = append(places, new(big.Rat).SetInt64(int64(n)))
			places[len(places)-1].Add(places[len(places)-1], beyond(0, sign))
		}
	}
	two := big.NewRat(2, 1)
	found := map[bool]int{}
	for _, low := range ends {
		for _, high := range ends {
			for _, at := range places {
				want := new(big.Rat).SetInt64(int64(low)).Cmp(at) < 0 && at.Cmp(new(big.Rat).SetInt64(int64(high))) < 0
				alongX, alongY := bigPoint{at, two}.point(), bigPoint{two, at}.point()
				if impl.InBox(boxOf(low, 1, high, 3), alongX) != want || impl.InBox(boxOf(1, low, 3, high), alongY) != want {
					t.Errorf("with %v between %d and %d InBox is not %v", at, low, high, want)
				}
				if impl.InBox(boxOf(low, 2, high, 3), alongX) || impl.InBox(boxOf(0, low, 2, high), alongY) {
					t.Errorf("with %v between %d and %d InBox is true at the border", at, low, high)
				}
				found[want]++
			}
		}
	}
	if found[true] < 400 || found[false] < 400 {
		t.Errorf("the places are too much alike: %v", found)
	}
}

// The distance to the border does not have to be a valid fraction.
func TestInBoxAtTheLimitOfLimbs(t *testing.T) {
	smallest, top, zero := fraction(false, []int{1}, longest()), wholeOf(longest()), impl.RatFromInt(0)
	cases := []struct {
		name      string
		r         impl.Rat
		low, high int
		want      bool
	}{
		{"the smallest fraction", smallest, -1, 1, true},
		{"the smallest fraction above the border", smallest, 0, 1, true},
		{"the smallest fraction beyond the border", smallest, -1, 0, false},
		{"the smallest fraction in a large rectangle", smallest, math.MinInt, math.MaxInt, true},
		{"the negated smallest fraction", impl.RatNeg(smallest), -1, 1, true},
		{"the negated smallest fraction below the border", impl.RatNeg(smallest), -1, 0, true},
		{"the negated smallest fraction beyond the border", impl.RatNeg(smallest), 0, 1, false},
		{"the greatest fraction", top, math.MinInt, math.MaxInt, false},
		{"the least fraction", impl.RatNeg(top), math.MinInt, math.MaxInt, false},
	}
	s := impl.Scene{Low: impl.Vec{X: -1, Y: -1}, High: impl.Vec{X: 2, Y: 2}, Robot: vecs(0, 0, 1, 0, 0, 1)}
	for _, c := range cases {
		alongX, alongY := impl.Point{X: c.r, Y: zero}, impl.Point{X: zero, Y: c.r}
		if impl.InBox(boxOf(c.low, -1, c.high, 1), alongX) != c.want || impl.InBox(boxOf(-1, c.low, 1, c.high), alongY) != c.want {
			t.Errorf("%s: InBox is not %v", c.name, c.want)
		}
		for _, p := range []impl.Point{alongX, alongY} {
			if want := wantedHindrance(s, 0, bigPointOf(p)) == isFree; impl.IsFree(s, 0, p) != want || impl.IsFreeMove(s, 0, p, origin()) != want {
				t.Errorf("%s: IsFree is not %v", c.name, want)
			}
		}
	}
}

func TestInBoxRefusesWhatIsNoPoint(t *testing.T) {
	for _, bad := range badPoints() {
		for _, b := range []impl.Box{boxOf(-5, -5, 5, 5), boxOf(math.MinInt, math.MinInt, math.MaxInt, math.MaxInt), boxOf(-1, -2, 1000, 1000), {}, boxOf(5, 5, -5, -5)} {
			if impl.InBox(b, bad) {
				t.Errorf("InBox(%v, %v) is true", b, bad)
			}
		}
	}
}

type freeCase struct {
	name   string
	s      impl.Scene
	h      int
	points string
	want   bool
}

func casesOfHeadings() []freeCase {
	return []freeCase{
		{"free", hall(), 0, "3,5 5,5 7/2,11/3 16,2 9,3/2 9,17/2", true},
		{"just within the rectangle", hall(), 0, "1+,5 18-,5 3,1+ 3,9- 1+,1+ 18-,9- 1+,9- 18-,1+", true},
		{"just outside of the area", hall(), 0, "6-,5 13+,5 9,2- 9,8+ 6-,2- 13+,8+ 6-,2 13,2- 6-,8 13,8+", true},
		{"a wall along an edge", hall(), 0, "1,5 18,5 3,1 3,9 1,3/2 35/2,9", false},
		{"two walls", hall(), 0, "1,1 18,1 18,9 1,9", false},
		{"just in a wall", hall(), 0, "1-,5 18+,5 3,1- 3,9+ 1-,1- 18+,9+ 1+,1- 18+,9-", false},
		{"outside of the room", hall(), 0, "0,0 -5,5 25,5 10,-100 1000000,5 -1000000000000000000000,1/2", false},
		{"an obstacle along an edge", hall(), 0, "6,5 13,5 9,2 9,8 6,3 13,7/2 6,2+ 13-,8", false},
		{"a corner of an obstacle", hall(), 0, "6,2 13,2 13,8 6,8", false},
		{"just in an obstacle", hall(), 0, "6+,5 13-,5 9,2+ 9,8- 6+,2+ 13-,8-", false},
		{"strictly inside an obstacle", hall(), 0, "19/2,5 19/2,11/2", false},
		{"in an obstacle", hall(), 0, "10,5 7,3 12,15/2", false},
		{"heading 1: free", hall(), 1, "3,5 7-,5 13+,5 19-,5 18,5 1+,8-", true},
		{"heading 1: not free", hall(), 1, "7,5 13,5 10,1+ 10,8- 10,1 3,8 3,1 1,5 19,5 9,17/2", false},
		{"heading 2: free", hall(), 2, "2+,5 19-,5 7-,5 14+,5 9,2- 3,9- 9,17/2", true},
		{"heading 2: not free", hall(), 2, "2,5 19,5 7,5 14,5 9,2 9,8 3/2,5 27/2,5", false},
		{"heading 3: free", hall(), 3, "1+,2+ 3,9- 7-,5 13+,5 37/2,5", true},
		{"heading 3: not free", hall(), 3, "10,2+ 10,9- 3,2 3,9 7,5 13,5 9,3/2", false},
		{"a heading of -1", hall(), -1, "3,5 3/2,5 18,5", false},
		{"a heading of 4", hall(), 4, "3,5 3/2,5 18,5", false},
	}
}

// wedge has a robot with corners at 0,0, 2,1 and 1,2.
func wedge(obstacles ...[]impl.Vec) impl.Scene {
	return impl.Scene{High: impl.Vec{X: 20, Y: 20}, Robot: vecs(0, 0, 2, 1, 1, 2), Obstacles: obstacles}
}

// diamond has a robot that touches a wall with one point.
func diamond(obstacles ...[]impl.Vec) impl.Scene {
	return impl.Scene{High: impl.Vec{X: 20, Y: 20}, Robot: vecs(-1, 0, 0, -1, 1, 0, 0, 1), Obstacles: obstacles}
}

func casesOfTouches() []freeCase {
	triangle, spike := wedge(vecs(10, 10, 14, 10, 10, 14)), diamond(vecs(4, 1, 6, 0, 6, 2))
	low := hallOf(10, rectangle(8, 0, 12, 4))
	large := impl.Scene{High: impl.Vec{X: 40, Y: 40}, Robot: rectangle(-5, -5, 5, 5), Obstacles: [][]impl.Vec{vecs(20, 20, 21, 20, 20, 21)}}
	return []freeCase{
		{"two corners", triangle, 0, "8,9", false},
		{"just apart from a corner", triangle, 0, "8-,9 8,9- 8-,9-", true},
		{"a corner along an edge", triangle, 0, "8+,9", false},
		{"a corner of the robot at a slanting edge", triangle, 0, "12,12 13,11 25/2,23/2", false},
		{"just apart from a slanting edge", triangle, 0, "12+,12 12,12+ 13+,11", true},
		{"just in a slanting edge", triangle, 0, "12-,12 12,12- 13-,11", false},
		{"a corner of the obstacle at a slanting edge", triangle, 0, "27/2,9 53/4,17/2", false},
		{"just in it", triangle, 0, "13,9 53/4,9", false},
		{"a corner of the obstacle apart from a slanting edge", triangle, 0, "14,9 14-,9 55/4,9", true},
		{"a wall in one point", spike, 0, "3,1 10,1 1,10 19,10 10,19 19,19", false},
		{"a wall and an obstacle in one point each", spike, 0, "3,1", false},
		{"only the wall", spike, 0, "3-,1 2,1", false},
		{"neither of them", spike, 0, "3-,1+ 3,1+", true},
		{"only the obstacle", spike, 0, "3+,1+ 7/2,3/2", false},
		{"a wall and an obstacle along an edge each", low, 0, "6,1 13,1", false},
		{"only the wall, along an edge", low, 0, "6-,1 13+,1", false},
		{"only the obstacle, along an edge", low, 0, "6,1+ 13,1+ 9,5", false},
		{"neither of them, in the corner", low, 0, "6-,1+ 13+,1+", true},
		{"strictly inside an obstacle", hallOf(10, rectangle(5, 1, 15, 9)), 0, "10,5 7,3 9,6", false},
		{"an obstacle around the room", hallOf(10, rectangle(-10, -10, 30, 20)), 0, "10,5 1+,1+ 18-,9- 3,5", false},
		{"an obstacle like the room", hallOf(10, rectangle(0, 0, 20, 10)), 0, "10,5 1+,1+ 18-,9- 3,5", false},
		{"an obstacle strictly inside the robot", large, 0, "20,20 18,22 35/2,45/2", false},
		{"apart from an obstacle that is smaller than the robot", large, 0, "15-,15- 26+,20 20,26+ 10,10", true},
	}
}

func casesOfScenes() []freeCase {
	overlapping := hallOf(10, rectangle(8, 3, 12, 7), rectangle(10, 5, 14, 9))
	far := hallOf(10, rectangle(30, 0, 40, 10), rectangle(-9, -9, -5, -5), rectangle(8, 50, 12, 60))
	atWall, inWall := hallOf(10, rectangle(20, 0, 25, 10)), hallOf(10, rectangle(19, 0, 25, 10))
	apart := hallOf(20, rectangle(8, 3, 12, 7))
	apart.Robot = vecs(5, 5, 7, 5, 6, 8)
	narrow := func(width int) impl.Scene {
		s := hallOf(10)
		s.High.X = width
		return s
	}
	return []freeCase{
		{"in both obstacles", overlapping, 0, "10,5 9,5 12,7", false},
		{"in one of two obstacles", overlapping, 0, "7,3 14,17/2 14,5", false},
		{"at the edge of one obstacle", overlapping, 0, "6,5 13,3 15,5 13,5 8,6", false},
		{"where two borders cross", overlapping, 0, "13,4 8,8", false},
		{"just apart from both obstacles", overlapping, 0, "13+,4- 8-,8+ 6-,5 15+,5", true},
		{"obstacles outside of the room", far, 0, "10,5 1+,1+ 18-,9- 18-,1+ 1+,9-", true},
		{"obstacles outside of the room, and a wall", far, 0, "1,5 18,5 9,9", false},
		{"an obstacle at the wall from outside", atWall, 0, "18-,5 18-,9- 10,5", true},
		{"an obstacle at the wall, and the wall", atWall, 0, "18,5", false},
		{"an obstacle in the wall", inWall, 0, "17,5 17+,5 18-,5 18,5", false},
		{"apart from an obstacle in the wall", inWall, 0, "17-,5 10,5", true},
		{"a robot apart from its origin", apart, 0, "10,5 0,-5+ -5+,0 13-,12- -5+,-5+ 8,3 5,9", true},
		{"a robot apart from its origin at a wall", apart, 0, "-5,0 13,0 0,-5 0,12", false},
		{"a robot apart from its origin at an obstacle", apart, 0, "3,0 1,-1 3/2,2 5,1", false},
		{"a robot apart from its origin, its origin free", apart, 0, "3,-1/2 13,13 19,1", false},
		{"heading 1: a robot apart from its origin", apart, 1, "8+,-5+ 25-,13- 22,0 10,5 22,10", true},
		{"heading 1: a robot apart from its origin, not free", apart, 1, "8,0 25,0 10,13 10,-5 15,0 3,5", false},
		{"a width of 1", narrow(4), 0, "3/2,5 1+,5 2-,5 1+,9- 2-,1+", true},
		{"the border of a width of 1", narrow(4), 0, "1,5 2,5 1-,5 2+,5 1,1 2,9", false},
		{"a width of 0", narrow(3), 0, "1,5 1+,5 1-,5 3/2,5", false},
		{"a width of 0, with another heading", narrow(3), 1, "3/2,5 1+,5 2-,8-", true},
		{"a width of less than 0", narrow(2), 0, "1,5 1/2,5 0,5", false},
		{"the zero scene", impl.Scene{}, 0, "0,0 1,1 1/2,1/2", false},
		{"a bad obstacle", hallOf(10, vecs(30, 0, 31, 0)), 0, "3,5", false},
		{"no robot", changedScene(func(s *impl.Scene) { s.Robot = nil }), 0, "7,7 20,20", false},
	}
}

// P5: every case is what the corners say, and a move of length 0 is free exactly if its point is.
func TestIsFree(t *testing.T) {
	for _, c := range slices.Concat(casesOfHeadings(), casesOfTouches(), casesOfScenes()) {
		for _, p := range placesOf(t, c.points) {
			if got := impl.IsFree(c.s, c.h, p.point()); got != c.want {
				t.Errorf("%s: IsFree with heading %d at %s is %v", c.name, c.h, impl.FormatPoint(p.point()), got)
			}
			if got := impl.IsFreeMove(c.s, c.h, p.point(), p.point()); got != c.want {
				t.Errorf("%s: IsFreeMove with heading %d at %s is %v", c.name, c.h, impl.FormatPoint(p.point()), got)
			}
			if wanted := wantedHindrance(c.s, c.h, p); (wanted == isFree) != c.want {
				t.Errorf("%s: %s with heading %d is %s", c.name, impl.FormatPoint(p.point()), c.h, wanted)
			}
		}
	}
}

// P5: small robots and obstacles at all places of a grid. Everything is stretched until the places have no fractions.
func TestIsFreeOnAGrid(t *testing.T) {
	const scale = 2
	random := rand.New(rand.NewSource(113))
	robots := polygonsOn(gridOf(impl.Vec{X: -1}, impl.Vec{Y: 2}))
	obstacles := slices.DeleteFunc(gridPolygons(), func(l []impl.Vec) bool { return len(l) > impl.MaxRobotCorners })
	found := map[string]int{}
	for i := range 600 {
		s := impl.Scene{Low: impl.Vec{X: -1, Y: -1}, High: impl.Vec{X: 3 + i%2, Y: 4}, Robot: robots[random.Intn(len(robots))]}
		for range i % 3 {
			s.Obstacles = append(s.Obstacles, movedBy(obstacles[random.Intn(len(obstacles))], randomVecs(random, 1, 2)[0]))
		}
		h := random.Intn(4)
		for _, at := range gridOf(impl.Vec{X: -5, Y: -5}, impl.Vec{X: 9, Y: 9}) {
			robot, want := movedBy(stretched(turnedList(s.Robot, h), scale), at), isFree
			low, high := wantedWidth(robot)
			if low.X <= scale*s.Low.X || low.Y <= scale*s.Low.Y || high.X >= scale*s.High.X || high.Y >= scale*s.High.Y {
				want = isNotInRoom
			} else if slices.ContainsFunc(s.Obstacles, func(l []impl.Vec) bool { return wantedTouch(robot, stretched(l, scale)) }) {
				want = isAtObstacle
			}
			p := impl.Point{X: impl.RatOf(at.X, scale), Y: impl.RatOf(at.Y, scale)}
			if got := impl.IsFree(s, h, p); got != (want == isFree) {
				t.Fatalf("IsFree(%v, %d, %s) is %v, but it is %s", s, h, impl.FormatPoint(p), got, want)
			}
			found[want]++
		}
	}
	if found[isFree] < 3000 || found[isNotInRoom] < 3000 || found[isAtObstacle] < 3000 {
		t.Errorf("the places are too much alike: %v", found)
	}
}

// P5: whole numbers and fractions of all lengths, at the borders and near to them.
func TestIsFreeAsTheCornersSay(t *testing.T) {
	random := rand.New(rand.NewSource(114))
	found := map[string]int{}
	for _, s := range append(crowdedScenes(115, 500), inOrder(validScenes())...) {
		for _, h := range headings() {
			for _, p := range placesIn(random, s, h) {
				want := wantedHindrance(s, h, p)
				if got := impl.IsFree(s, h, p.point()); got != (want == isFree) {
					t.Fatalf("IsFree(%v, %d, %s) is %v, but it is %s", s, h, impl.FormatPoint(p.point()), got, want)
				}
				found[want]++
			}
		}
	}
	if found[isFree] < 3000 || found[isNotInRoom] < 3000 || found[isAtObstacle] < 3000 {
		t.Errorf("the places are too much alike: %v", found)
	}
}

func TestIsFreeMove(t *testing.T) {
	corridor := hallOf(20, rectangle(8, 2, 12, 7), rectangle(8, 13, 12, 18))
	closed := hallOf(20, rectangle(8, 2, 12, 7), rectangle(8, 9, 12, 18))
	cornerwise := hallOf(20, rectangle(8, 2, 12, 7), rectangle(15, 9, 19, 14))
	cases := []freeCase{
		{"length 0", hall(), 0, "3,5 3,5 6-,5 6-,5 1+,9- 1+,9-", true},
		{"length 0 at a border", hall(), 0, "6,5 6,5 1,5 1,5 6,2 6,2 18,9 18,9", false},
		{"length 0 in an area", hall(), 0, "10,5 10,5 6+,2+ 6+,2+", false},
		{"beside everything", hall(), 0, "3,5 5,2 2,2 5,8 3,17/2 16,17/2 1+,1+ 18-,1+ 1+,1+ 1+,9- 16,3 17,17/2", true},
		{"along the border of an area", hall(), 0, "6,3/2 6,17/2 5,2 14,2 13,3/2 13,17/2 5,8 14,8", false},
		{"just beside the border of an area", hall(), 0, "6-,3/2 6-,17/2 5,2- 14,2- 13+,3/2 13+,17/2 5,8+ 14,8+", true},
		{"just within the border of an area", hall(), 0, "6+,3/2 6+,17/2 5,2+ 14,2+", false},
		{"up to the corner along the border", hall(), 0, "6,3/2 6,2 5,2 6,2 5,8 6,8", false},
		{"up to just before the corner", hall(), 0, "6,3/2 6,2- 5,2 6-,2", true},
		{"a corner only", hall(), 0, "4,3 7,3/2 12,17/2 14,15/2 5,15/2 7,17/2", false},
		{"just beside a corner", hall(), 0, "4,3- 7,3/2 4-,3 7,3/2 12,17/2 14+,15/2 5-,15/2 7,17/2", true},
		{"just within a corner", hall(), 0, "4,3+ 7,3/2 4+,3 7,3/2 12,17/2 14-,15/2", false},
		{"across the area", hall(), 0, "3,5 16,5 9,3/2 9,17/2 3,3/2 16,17/2 5,3 8,1+ 6-,5 13+,5", false},
		{"ends that are not free", hall(), 0, "1,5 3,5 6,5 3,5 10,5 16,5 0,0 3,5 10,5 10,6 1,3 1,5 -3,5 25,5 3,1 3,9 -3,-3 -2,-2", false},
		{"heading 1", hall(), 1, "3,5 6,15/2 7-,1+ 7-,8- 14,2 18,7 2,2 2,2", true},
		{"heading 1, not free", hall(), 1, "3,5 16,5 9,3/2 9,17/2 3,17/2 16,17/2 7,2 7,7 7-,2 13+,2", false},
		{"heading 2", hall(), 2, "3,5 6,17/2 5,17/2 16,17/2 7-,2 7,2- 14+,7 14+,2", true},
		{"heading 2, not free", hall(), 2, "3,5 16,5 3/2,5 3,5 13,3/2 14,2 6,2 15,2", false},
		{"heading 3", hall(), 3, "3,5 6,17/2 1+,2+ 1+,9- 7-,2+ 7-,9- 14,3 18,8", true},
		{"heading 3, not free", hall(), 3, "3,5 16,5 9,5/2 9,17/2 3,17/2 16,17/2", false},
		{"a bad heading", hall(), 4, "3,5 5,2 3,5 3,5", false},
		{"another bad heading", hall(), -1, "3,5 5,2 3,5 3,5", false},
		{"between two areas", corridor, 0, "3,10 16,10 3,8+ 16,8+ 3,12- 16,12- 6,8+ 13,12- 3,8+ 16,12- 10,8+ 10,12- 3,9 16,17/2 9,10 9,10", true},
		{"along the border of one of two areas", corridor, 0, "3,8 16,8 3,12 16,12 6,8 13,12 3,19- 16,19-", false},
		{"from between two areas into one", corridor, 0, "3,9 16,7 3,11 16,13 3,10 10,8 10,10 10,13", false},
		{"across two areas", corridor, 0, "10,1 10,19+ 3,3 16,17 7,1+ 7,19-", false},
		{"between two areas with heading 1", corridor, 1, "3,10 16,10 3,11- 16,11- 3,8+ 16,8+", true},
		{"between two areas with heading 1, not free", corridor, 1, "3,11 16,11 3,12- 16,12- 3,8 16,8", false},
		{"between two areas with a common border", closed, 0, "3,8 16,8 3,8+ 16,8+ 3,8- 16,8- 3,9 16,7", false},
		{"between two areas with a common corner", cornerwise, 0, "12,9 14,7 12,9+ 14,7+ 12,9- 14,7- 12,10 14,6", false},
		{"beside two areas with a common corner", cornerwise, 0, "5,9 12,15 14,7 16,2", true},
		{"obstacles outside of the room", hallOf(10, rectangle(30, 0, 40, 10), rectangle(-9, 0, -5, 4)), 0, "1+,1+ 18-,9- 1+,9- 18-,9- 2,2 2,8", true},
		{"overlapping obstacles", hallOf(10, rectangle(8, 3, 12, 7), rectangle(10, 5, 14, 9)), 0, "13+,3/2 15+,4 8-,8+ 5,17/2 3,3/2 16,3/2", true},
		{"overlapping obstacles, not free", hallOf(10, rectangle(8, 3, 12, 7), rectangle(10, 5, 14, 9)), 0, "12,3/2 16,13/2 3,5 16,5 15,2 15,17/2 15+,3 13+,9", false},
		{"the zero scene", impl.Scene{}, 0, "0,0 1,1 0,0 0,0", false},
		{"a bad obstacle", hallOf(10, rectangle(8, 3, 12, 7), nil), 0, "3,5 5,2 3,5 3,5", false},
	}
	for _, c := range cases {
		for ends := range slices.Chunk(placesOf(t, c.points), 2) {
			checkFreeMove(t, c.s, c.h, ends[0], ends[1], c.want, c.name)
			if want, _ := wantedWay(c.s, c.h, ends[0], ends[1]); want != c.want {
				t.Errorf("%s: with heading %d from %v to %v it is %v", c.name, c.h, ends[0], ends[1], want)
			}
		}
	}
}

// checkFreeMove does not depend on the direction of a move.
func checkFreeMove(t *testing.T, s impl.Scene, h int, a, b bigPoint, want bool, name string) {
	t.Helper()
	p, q := a.point(), b.point()
	if got, back := impl.IsFreeMove(s, h, p, q), impl.IsFreeMove(s, h, q, p); got != want || back != want {
		t.Fatalf("%s: IsFreeMove(%v, %d) from %s to %s is %v, and back %v", name, s, h, impl.FormatPoint(p), impl.FormatPoint(q), got, back)
	}
}

// P5: a move is free exactly if the corners say so. All placements of a free move are free, and on a move that is not
// free there is one that is not.
func TestIsFreeMoveAsTheCornersSay(t *testing.T) {
	random := rand.New(rand.NewSource(116))
	found := map[string]int{}
	for _, s := range append(crowdedScenes(117, 180), plainScene(), smallScene(), fullScene(), hall()) {
		h := random.Intn(4)
		for _, way := range waysIn(random, s, h) {
			p, q := way[0], way[1]
			want, met := wantedWay(s, h, p, q)
			checkFreeMove(t, s, h, p, q, want, "a way")
			if want {
				found["free"] += checkPlacesBetween(t, random, s, h, p, q)
				continue
			}
			if at := p.farther(p.wayTo(q), met); isFitting(at) && impl.IsFree(s, h, at.point()) {
				t.Fatalf("with heading %d in %v the way from %v to %v is not free, but it is at %v", h, s, p, q, at)
			}
			if wantedHindrance(s, h, p) == isFree && wantedHindrance(s, h, q) == isFree {
				found["not free in between"]++
			} else {
				found["ends that are not free"]++
			}
		}
	}
	if found["free"] < 1000 || found["not free in between"] < 300 || found["ends that are not free"] < 1000 {
		t.Errorf("the ways are too much alike: %v", found)
	}
}

// checkPlacesBetween counts places of a free move.
func checkPlacesBetween(t *testing.T, random *rand.Rand, s impl.Scene, h int, p, q bigPoint) (count int) {
	t.Helper()
	for range 2 {
		at := p.farther(p.wayTo(q), big.NewRat(random.Int63n(1001), 1000))
		if !isFitting(at) {
			continue
		}
		if !impl.IsFree(s, h, at.point()) || !impl.IsFreeMove(s, h, p.point(), at.point()) || wantedHindrance(s, h, at) != isFree {
			t.Fatalf("with heading %d in %v the way from %v to %v is free, but it is not at %v", h, s, p, q, at)
		}
		count++
	}
	return count
}

func TestRobotCorners(t *testing.T) {
	apart := hallOf(10)
	apart.Robot = vecs(5, 5, 7, 5, 6, 8)
	cases := []struct {
		name, at, want string
		s              impl.Scene
		h              int
	}{
		{"heading 0", "3,5", "2,4 5,4 5,6 2,6", hall(), 0},
		{"heading 1", "3,5", "4,4 4,7 2,7 2,4", hall(), 1},
		{"heading 2", "3,5", "4,6 1,6 1,4 4,4", hall(), 2},
		{"heading 3", "3,5", "2,6 2,3 4,3 4,6", hall(), 3},
		{"fractions", "1/2,-7/3", "3/2,-4/3 -3/2,-4/3 -3/2,-10/3 3/2,-10/3", hall(), 2},
		{"the origin", "0,0", "-1,-1 2,-1 2,1 -1,1", hall(), 0},
		{"not free", "10,5", "9,4 12,4 12,6 9,6", hall(), 0},
		{"outside of the room", "-100,2000", "-101,1999 -98,1999 -98,2001 -101,2001", hall(), 0},
		{"no room for the robot", "1,1", "0,0 3,0 3,2 0,2", hallOf(1), 0},
		{"apart from the origin", "1/3,-5", "16/3,0 22/3,0 19/3,3", apart, 0},
		{"apart from the origin, heading 1", "1/3,-5", "-14/3,0 -14/3,2 -23/3,1", apart, 1},
		{"corners at 0", "1,1", "0,0 3,0 3,2 0,2", hall(), 0},
		{"a heading of -1", "3,5", "", hall(), -1},
		{"a heading of 4", "3,5", "", hall(), 4},
		{"the zero scene", "3,5", "", impl.Scene{}, 0},
		{"a bad table", "3,5", "", withTables(vecs(0, 0, 0, -201)), 0},
	}
	for _, c := range cases {
		got, want := impl.RobotCorners(c.s, c.h, pointsOf(t, c.at)[0]), pointsOf(t, c.want)
		if !slices.EqualFunc(got, want, samePoint) {
			t.Errorf("%s: %v, want %v", c.name, got, want)
		}
	}
}

// cornerPlaces are near the greatest fractions and of all other lengths.
func cornerPlaces() []impl.Point {
	random := rand.New(rand.NewSource(118))
	l := edgePoints()
	for _, sign := range []int64{-1, 1} {
		for below := range int64(24) {
			near := new(big.Int).Sub(bigOf(longest()), big.NewInt(below))
			r := ratOf(new(big.Rat).SetInt(near.Mul(near, big.NewInt(sign))))
			l = append(l, impl.Point{X: r, Y: impl.RatOf(1, 3)}, impl.Point{X: impl.RatFromInt(0), Y: r}, impl.Point{X: r, Y: r})
		}
	}
	for range 200 {
		l = append(l, randomPoint(random, 1+random.Intn(impl.MaxRat)))
	}
	return l
}

func TestRobotCornersAreThoseOfTheMovedRobot(t *testing.T) {
	places := cornerPlaces()
	found := map[bool]int{}
	for i, s := range allValidScenes() {
		for k := range 20 {
			p, h := places[(20*i+k)%len(places)], (i+k)%4
			got, want := impl.RobotCorners(s, h, p), wantedCorners(s, h, bigPointOf(p))
			if !slices.EqualFunc(got, want, samePoint) {
				t.Fatalf("RobotCorners(%v, %d, %s) = %v, want %v", s, h, impl.FormatPoint(p), got, want)
			}
			found[len(want) > 0]++
		}
	}
	if found[true] < 1000 || found[false] < 1000 {
		t.Errorf("the places are too much alike: %v", found)
	}
}

func TestRobotCornersAtTheLimitOfLimbs(t *testing.T) {
	top, lowest, zero := wholeOf(longest()), fraction(true, longest(), []int{1}), impl.RatFromInt(0)
	almost, smallest := impl.RatSub(top, impl.RatFromInt(7)), fraction(false, []int{1}, longest())
	almostLowest := impl.RatNeg(almost)
	seven, eight, left := vecs(0, 0, 7, 0, 0, 5), vecs(0, 0, 8, 0, 0, 5), vecs(0, 0, -1, 1, -1, 0)
	cases := []struct {
		name  string
		robot []impl.Vec
		h     int
		p     impl.Point
		want  bool
	}{
		{"up to the greatest fraction", seven, 0, impl.Point{X: almost, Y: zero}, true},
		{"beyond the greatest fraction", eight, 0, impl.Point{X: almost, Y: zero}, false},
		{"up to the greatest fraction along Y", seven, 1, impl.Point{X: zero, Y: almost}, true},
		{"beyond the greatest fraction along Y", eight, 1, impl.Point{X: zero, Y: almost}, false},
		{"down to the least fraction", seven, 2, impl.Point{X: almostLowest, Y: zero}, true},
		{"beyond the least fraction", eight, 2, impl.Point{X: almostLowest, Y: zero}, false},
		{"down to the least fraction along Y", seven, 3, impl.Point{X: zero, Y: almostLowest}, true},
		{"beyond the least fraction along Y", eight, 3, impl.Point{X: zero, Y: almostLowest}, false},
		{"away from the greatest fraction", eight, 1, impl.Point{X: almost, Y: zero}, true},
		{"at the greatest fraction", left, 0, impl.Point{X: top, Y: zero}, true},
		{"at the greatest fraction, to the other side", left, 2, impl.Point{X: top, Y: zero}, false},
		{"at the least fraction, to the other side", left, 2, impl.Point{X: lowest, Y: zero}, true},
		{"at the least fraction", left, 0, impl.Point{X: lowest, Y: zero}, false},
		{"1 less than the smallest fraction", left, 0, impl.Point{X: smallest, Y: zero}, true},
		{"1 more than the smallest fraction", left, 2, impl.Point{X: smallest, Y: zero}, false},
		{"one coordinate of one corner only", vecs(0, 0, 1, 0, 0, 1), 0, impl.Point{X: zero, Y: top}, false},
	}
	for _, c := range cases {
		for k := range c.robot {
			s := withRobot(startedAt(c.robot, k))
			got, want := impl.RobotCorners(s, c.h, c.p), wantedCorners(s, c.h, bigPointOf(c.p))
			if !slices.EqualFunc(got, want, samePoint) || (len(got) == len(c.robot)) != c.want || !c.want && len(got) != 0 {
				t.Errorf("%s: %v, want %v", c.name, got, want)
			}
		}
	}
}

// checkNothing expects of every function what it returns where there is no robot, or no point.
func checkNothing(t *testing.T, name string, s impl.Scene, h int, p, q impl.Point) {
	t.Helper()
	if impl.IsFree(s, h, p) || impl.IsFreeMove(s, h, p, q) || impl.IsFreeMove(s, h, q, p) || len(impl.RobotCorners(s, h, p)) != 0 {
		t.Errorf("%s: with heading %d at %v in %v there is a placement", name, h, p, s)
	}
}

func checkNoRobot(t *testing.T, name string, s impl.Scene, h int) {
	t.Helper()
	limits, ok := impl.LimitsOf(s, h)
	if len(impl.RobotAt(s, h)) != 0 || len(impl.BlockedAreas(s, h)) != 0 || ok || limits != (impl.Box{}) {
		t.Errorf("%s: with heading %d in %v there is a robot, an area or a rectangle", name, h, s)
	}
	for _, p := range append(pointsOf(t, "0,0 3,5 1/2,1/2 -4,9 7,7"), impl.Point{}) {
		checkNothing(t, name, s, h, p, p)
		checkNothing(t, name, s, h, p, whole(7, 7))
	}
}

func TestFreeFunctionsRefuseBadScenes(t *testing.T) {
	for name, scenes := range badScenes() {
		for _, s := range scenes {
			for _, h := range []int{0, 1, 2, 3, -1, 4, math.MinInt, math.MaxInt} {
				checkNoRobot(t, name, s, h)
			}
		}
	}
}

func TestFreeFunctionsRefuseBadHeadings(t *testing.T) {
	scenes := append(inOrder(validScenes())[:20], hall(), wedge(), diamond(), plainScene(), smallScene(), fullScene())
	for _, s := range append(scenes, crowdedScenes(119, 20)...) {
		for _, h := range badHeadings() {
			checkNoRobot(t, "a bad heading", s, h)
		}
	}
}

func TestFreeFunctionsRefuseWhatIsNoPoint(t *testing.T) {
	for _, s := range []impl.Scene{hall(), hallOf(10), wedge(), plainScene(), fullScene()} {
		for _, bad := range badPoints() {
			for _, h := range []int{0, 3, 4} {
				checkNothing(t, "a bad point", s, h, bad, whole(3, 5))
				checkNothing(t, "two bad points", s, h, bad, bad)
			}
		}
	}
}

// freeResults are the lists of the results of all functions that return some, those of one result together.
func freeResults(s impl.Scene, h int, p, q impl.Point) (vecLists map[string][][]impl.Vec, limbLists map[string][][]int) {
	limits, _ := impl.LimitsOf(s, h)
	impl.InBox(limits, p)
	impl.IsFree(s, h, p)
	impl.IsFreeMove(s, h, p, q)
	var limbs [][]int
	for _, corner := range impl.RobotCorners(s, h, p) {
		limbs = append(limbs, partsOf(corner)...)
	}
	return map[string][][]impl.Vec{"RobotAt": {impl.RobotAt(s, h)}, "BlockedAreas": impl.BlockedAreas(s, h)}, map[string][][]int{"RobotCorners": limbs}
}

// freeArguments are scenes, valid ones and others, with points of all sizes.
func freeArguments() (scenes []impl.Scene, points []impl.Point) {
	return slices.Concat(someScenes(), crowdedScenes(120, 100), []impl.Scene{hall(), wedge(), diamond()}), append(cornerPlaces(), badPoints()...)
}

func TestFreeFunctionsLeaveTheirArgumentsAlone(t *testing.T) {
	scenes, points := freeArguments()
	for i, s := range scenes {
		for k := range 8 {
			inside, isUnchanged := framedScene(s)
			rowsP, p := framedPoint(points[(8*i+k)%len(points)])
			rowsQ, q := framedPoint(points[(3*i+k)%len(points)])
			rows := slices.Concat(rowsP, rowsQ)
			var was [][]int
			for _, row := range rows {
				was = append(was, slices.Clone(row))
			}
			vecLists, limbLists := freeResults(inside, k%5, p, q)
			for _, lists := range vecLists {
				overwriteLists(lists)
			}
			for _, lists := range limbLists {
				for _, l := range lists {
					overwrite(l)
				}
			}
			if !isUnchanged() || !slices.EqualFunc(rows, was, slices.Equal[[]int]) {
				t.Fatalf("a function of %v with heading %d at %v, or a write to its result, changed an argument", s, k%5, p)
			}
		}
	}
}

func overwriteLists(lists [][]impl.Vec) {
	for _, l := range lists {
		overwriteVecs(l)
	}
	clear(lists[:cap(lists)])
}

func clonedLists[T any](lists [][]T) [][]T {
	var l [][]T
	for _, one := range lists {
		l = append(l, slices.Clone(one))
	}
	return l
}

func TestFreeResultsAreNewEachTime(t *testing.T) {
	scenes, points := freeArguments()
	for i, s := range scenes {
		for h := range 4 {
			p := points[(4*i+h)%len(points)]
			vecLists, limbLists := freeResults(s, h, p, p)
			wantVecs, wantLimbs := map[string][][]impl.Vec{}, map[string][][]int{}
			for name, lists := range vecLists {
				wantVecs[name] = clonedLists(lists)
				overwriteLists(lists)
			}
			for name, lists := range limbLists {
				wantLimbs[name] = clonedLists(lists)
				for _, l := range lists {
					overwrite(l)
				}
			}
			vecLists, limbLists = freeResults(s, h, p, p)
			for name, lists := range vecLists {
				if !slices.EqualFunc(lists, wantVecs[name], slices.Equal) {
					t.Fatalf("%s of %v is %v after its last result was changed", name, s, lists)
				}
			}
			for name, lists := range limbLists {
				if !slices.EqualFunc(lists, wantLimbs[name], slices.Equal) {
					t.Fatalf("%s of %v is %v after its last result was changed", name, s, lists)
				}
			}
		}
	}
}

// checkApart writes to one list after another, and into its spare capacity, and looks at the other ones.
func checkApart[T comparable](t *testing.T, name string, lists [][]T, write func([]T)) {
	t.Helper()
	for i, l := range lists {
		was := clonedLists(lists)
		write(l)
		for k, other := range lists {
			if k != i && !slices.Equal(other, was[k]) {
				t.Fatalf("a write to list %d of %s changes list %d", i, name, k)
			}
		}
		copy(l, was[i])
	}
}

// No two lists of a result share memory, even where those of the arguments do.
func TestListsOfFreeResultsShareNoMemory(t *testing.T) {
	shared := vecs(0, 0, 9, 1, 3, 7)
	equal := impl.Scene{High: impl.Vec{X: 9, Y: 9}, Robot: shared, Obstacles: [][]impl.Vec{shared, shared, shared}, Tables: shared}
	scenes, points := freeArguments()
	one := []int{1}
	same := impl.Rat{Num: impl.BigInt{Mag: one}, Den: one}
	for i, s := range append(scenes, equal, equal, equal) {
		for h := range 4 {
			for _, p := range []impl.Point{points[(4*i+h)%len(points)], {X: same, Y: same}, whole(0, 0)} {
				vecLists, limbLists := freeResults(s, h, p, p)
				for name, lists := range vecLists {
					checkApart(t, name, lists, overwriteVecs)
				}
				for name, lists := range limbLists {
					checkApart(t, name, lists, overwrite)
				}
			}
		}
	}
}
