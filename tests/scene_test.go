package tests

import (
	"maps"
	"math"
	"math/big"
	"math/rand"
	"regexp"
	"slices"
	"strings"
	"testing"

	"loop.example/g00811/impl"
)

// plainScene has three obstacles, with 4, 3 and 5 corners, and two tables.
func plainScene() impl.Scene {
	return impl.Scene{
		Low: impl.Vec{X: -10, Y: -5}, High: impl.Vec{X: 30, Y: 25}, Robot: vecs(-1, -2, 3, -1, 1, 2),
		Obstacles: [][]impl.Vec{vecs(0, 0, 4, 0, 4, 4, 0, 4), vecs(10, 10, 15, 12, 11, 15), vecs(20, -4, 24, -3, 25, 1, 22, 3, 19, 0)},
		Tables:    vecs(5, 5, -7, 20),
	}
}

const plainText = "room -10,-5 30,25\nrobot -1,-2 3,-1 1,2\n" +
	"obstacle 0,0 4,0 4,4 0,4\nobstacle 10,10 15,12 11,15\nobstacle 20,-4 24,-3 25,1 22,3 19,0\ntable 5,5\ntable -7,20\n"

// smallScene is as small as a scene can be.
func smallScene() impl.Scene {
	return impl.Scene{High: impl.Vec{X: 1, Y: 1}, Robot: vecs(0, 0, 1, 0, 0, 1)}
}

// fullScene has as many obstacles, tables and corners as a scene can have, and all of them are as large as they can be.
func fullScene() impl.Scene {
	robot, obstacle := vecs(-20, -20, 20, -20, 20, 0, 0, 20, -20, 20), vecs(-200, -200, 200, -200, 200, 0, 0, 200, -200, 200)
	return impl.Scene{
		Low: impl.Vec{X: -200, Y: -200}, High: impl.Vec{X: 200, Y: 200}, Robot: robot,
		Obstacles: slices.Repeat([][]impl.Vec{obstacle}, 4), Tables: vecs(-200, -200, 200, 200, -200, 200),
	}
}

// changedScene is plainScene after a change.
func changedScene(change func(s *impl.Scene)) impl.Scene {
	s := plainScene()
	change(&s)
	return s
}

func withRoom(lowX, lowY, highX, highY int) impl.Scene {
	return changedScene(func(s *impl.Scene) { s.Low, s.High = impl.Vec{X: lowX, Y: lowY}, impl.Vec{X: highX, Y: highY} })
}

func withRobot(l []impl.Vec) impl.Scene { return changedScene(func(s *impl.Scene) { s.Robot = l }) }

func withObstacles(l ...[]impl.Vec) impl.Scene {
	return changedScene(func(s *impl.Scene) { s.Obstacles = l })
}

func withTables(l []impl.Vec) impl.Scene { return changedScene(func(s *impl.Scene) { s.Tables = l }) }

// solids have 3 to MaxRobotCorners corners.
func solids() [][]impl.Vec {
	return [][]impl.Vec{vecs(0, 0, 1, 0, 0, 1), smallSquare(), pentagon(), bowl(3), bowl(4), bowl(5), vecs(3, 4, 9, 5, 8, 8), vecs(-20, 5, 20, 6, 19, 7)}
}

func validScenes() map[string][]impl.Scene {
	good := map[string][]impl.Scene{
		"ordinary": {plainScene(), smallScene(), fullScene()},
		"rooms at the border": {
			withRoom(-200, -200, 200, 200), withRoom(-200, 0, 1, 1), withRoom(0, -200, 1, 1), withRoom(0, 0, 200, 1), withRoom(0, 0, 1, 200),
		},
		"rooms of width 1": {
			withRoom(0, 0, 1, 1), withRoom(-200, -200, -199, -199), withRoom(199, 199, 200, 200), withRoom(-200, 7, 200, 8), withRoom(-1, -200, 0, 200),
		},
		"robots at the border": {
			withRobot(vecs(-20, -20, 20, -20, 20, 20, -20, 20)), withRobot(vecs(-20, 0, 0, 0, 0, 1)), withRobot(vecs(0, -20, 1, 0, 0, 0)),
			withRobot(vecs(20, 0, 1, 1, 0, 0)), withRobot(vecs(0, 20, 0, 0, 1, 0)),
		},
		"robots apart from the origin": {withRobot(vecs(18, 18, 20, 18, 19, 20)), withRobot(vecs(-20, -20, -19, -20, -20, -19))},
		"no obstacle":                  {withObstacles(), changedScene(func(s *impl.Scene) { s.Obstacles = [][]impl.Vec{} })},
		"obstacles at the border": {
			withObstacles(vecs(-200, -200, 200, -200, 200, 200, -200, 200)), withObstacles(vecs(-200, 0, 0, 0, 0, 1)), withObstacles(vecs(0, -200, 1, 0, 0, 0)),
			withObstacles(vecs(200, 0, 1, 1, 0, 0)), withObstacles(vecs(0, 200, 0, 0, 1, 0)),
		},
		"obstacles outside of the room": {withObstacles(vecs(100, 100, 101, 100, 100, 101), vecs(-50, -50, 90, -50, 90, 80, -50, 80))},
		"equal obstacles":               {withObstacles(smallSquare(), smallSquare()), withObstacles(slices.Repeat([][]impl.Vec{pentagon()}, 4)...)},
		"no table":                      {withTables(nil), withTables([]impl.Vec{})},
		"tables at the border":          {withTables(vecs(-200, -200)), withTables(vecs(200, 200, -200, 200, 200, -200)), withTables(vecs(0, 200, 0, -200, -200, 0))},
		"tables outside of the room":    {withTables(vecs(31, 0, 0, 26)), withTables(vecs(-11, 0, 0, -6, 100, 100))},
		"tables on the room's border":   {withTables(vecs(-10, -5, 30, 25, 0, 25))},
		"equal tables":                  {withTables(vecs(5, 5, 5, 5)), withTables(vecs(0, 0, 0, 0, 0, 0))},
	}
	for i, l := range solids() {
		good["solids"] = append(good["solids"], withRobot(l), withObstacles(l), withObstacles(slices.Repeat(solids(), 2)[i:i+4]...))
		for k := range l {
			good["other first corners"] = append(good["other first corners"], withRobot(startedAt(l, k)), withObstacles(l, startedAt(l, k)))
		}
	}
	for n := range 4 {
		good["numbers of obstacles"] = append(good["numbers of obstacles"], withObstacles(solids()[:n+1]...))
		good["numbers of tables"] = append(good["numbers of tables"], withTables(vecs(1, 2, 3, 4, 5, 6)[:n]))
	}
	return good
}

func badScenes() map[string][]impl.Scene {
	bad := map[string][]impl.Scene{
		"the zero scene":         {{}},
		"Low is High":            {withRoom(0, 0, 0, 0), withRoom(3, 0, 3, 9), withRoom(0, 5, 9, 5), withRoom(-200, 0, -200, 1), withRoom(0, 200, 1, 200)},
		"Low is more than High":  {withRoom(1, 1, 0, 0), withRoom(4, 0, 3, 9), withRoom(0, 6, 9, 5), withRoom(200, -200, -200, 200), withRoom(-200, 200, 200, -200)},
		"a room that is too far": {withRoom(-201, 0, 1, 1), withRoom(0, -201, 1, 1), withRoom(0, 0, 201, 1), withRoom(0, 0, 1, 201), withRoom(-201, -201, 201, 201)},
		"no robot":               {withRobot(nil), withRobot([]impl.Vec{})},
		"a robot with too many corners": {
			withRobot(bowl(6)), withRobot(heptagon()), withRobot(ring()), withRobot(bowl(16)), withRobot(bowl(17)), withRobot(slices.Repeat(smallSquare(), 2)),
		},
		"a robot that is too large": {
			withRobot(vecs(-21, 0, 0, 0, 0, 1)), withRobot(vecs(0, -21, 1, 0, 0, 0)), withRobot(vecs(21, 0, 1, 1, 0, 0)), withRobot(vecs(0, 21, 0, 0, 1, 0)),
			withRobot(vecs(-20, -20, 20, -20, 20, 21, -20, 20)), withRobot(vecs(100, 100, 101, 100, 100, 101)), withRobot(largestSquare()),
		},
		"too many obstacles":                {withObstacles(solids()[:5]...), withObstacles(slices.Repeat(solids(), 2)...), withObstacles(slices.Repeat([][]impl.Vec{smallSquare()}, 5)...)},
		"an obstacle with too many corners": {withObstacles(bowl(6)), withObstacles(smallSquare(), heptagon()), withObstacles(ring(), pentagon())},
		"an obstacle that is too far": {
			withObstacles(vecs(-201, 0, 0, 0, 0, 1)), withObstacles(vecs(0, -201, 1, 0, 0, 0)), withObstacles(vecs(201, 0, 1, 1, 0, 0)), withObstacles(vecs(0, 201, 0, 0, 1, 0)),
			withObstacles(smallSquare(), smallSquare(), pentagon(), vecs(199, 199, 201, 199, 200, 200)), withObstacles(largestSquare(), smallSquare()),
		},
		"too many tables":      {withTables(vecs(0, 0, 1, 1, 2, 2, 3, 3)), withTables(vecs(0, 0, 0, 0, 0, 0, 0, 0)), withTables(slices.Repeat(vecs(1, 1), 100))},
		"a table too far away": {withTables(vecs(-201, 0)), withTables(vecs(0, -201)), withTables(vecs(201, 0)), withTables(vecs(0, 0, 0, 201)), withTables(vecs(0, 0, 0, 0, 201, 201))},
	}
	for name, lists := range badPolygons() {
		for i, l := range lists {
			obstacles := slices.Insert(solids()[:3], i%4, l)
			bad["a robot: "+name] = append(bad["a robot: "+name], withRobot(l))
			bad["an obstacle: "+name] = append(bad["an obstacle: "+name], withObstacles(l), withObstacles(obstacles...))
		}
	}
	for _, v := range badVecs() {
		bad["a room's corner"] = append(bad["a room's corner"], changedScene(func(s *impl.Scene) { s.Low = v }), changedScene(func(s *impl.Scene) { s.High = v }))
		for i := range 3 {
			bad["a table"] = append(bad["a table"], withTables(slices.Insert(vecs(1, 2, 3, 4), i, v)))
		}
	}
	return bad
}

// randomSolid has at most MaxRobotCorners corners, and no coordinate beyond most.
func randomSolid(random *rand.Rand, most int) []impl.Vec {
	for {
		if hull := wantedHull(randomVecs(random, 3+random.Intn(4), most)); len(hull) >= 3 && len(hull) <= 5 {
			return startedAt(hull, random.Intn(len(hull)))
		}
	}
}

func randomScenes(seed int64) []impl.Scene {
	random := rand.New(rand.NewSource(seed))
	var l []impl.Scene
	for range 300 {
		room := randomVecs(random, 1, 199)[0]
		s := impl.Scene{Low: room, High: impl.Vec{X: room.X + 1 + random.Intn(200-room.X), Y: room.Y + 1 + random.Intn(200-room.Y)}, Robot: randomSolid(random, 20)}
		for range random.Intn(5) {
			s.Obstacles = append(s.Obstacles, randomSolid(random, []int{5, 50, 200}[random.Intn(3)]))
		}
		s.Tables = randomVecs(random, random.Intn(4), []int{5, 200}[random.Intn(2)])
		l = append(l, s)
	}
	return l
}

// inOrder are the lists of a map one after another, always in the same order.
func inOrder[T any](m map[string][]T) []T {
	var l []T
	for _, name := range slices.Sorted(maps.Keys(m)) {
		l = append(l, m[name]...)
	}
	return l
}

// allValidScenes are the edge cases and random scenes.
func allValidScenes() []impl.Scene { return append(inOrder(validScenes()), randomScenes(100)...) }

func copiedScene(s impl.Scene) impl.Scene {
	c := impl.Scene{Low: s.Low, High: s.High, Robot: slices.Clone(s.Robot), Tables: slices.Clone(s.Tables)}
	for _, obstacle := range s.Obstacles {
		c.Obstacles = append(c.Obstacles, slices.Clone(obstacle))
	}
	return c
}

// listsOf are all corners and points of a scene.
func listsOf(s impl.Scene) [][]impl.Vec {
	return append([][]impl.Vec{{s.Low, s.High}, s.Robot, s.Tables}, s.Obstacles...)
}

func equalScenes(a, b impl.Scene) bool { return slices.EqualFunc(listsOf(a), listsOf(b), slices.Equal) }

func isZeroScene(s impl.Scene) bool { return equalScenes(s, impl.Scene{}) }

// coordinatesOf leads to every coordinate of a scene.
func coordinatesOf(s *impl.Scene) []*int {
	l := []*int{&s.Low.X, &s.Low.Y, &s.High.X, &s.High.Y}
	for _, list := range listsOf(*s)[1:] {
		for i := range list {
			l = append(l, &list[i].X, &list[i].Y)
		}
	}
	return l
}

func isWithin(l []impl.Vec, most int) bool {
	return !slices.ContainsFunc(l, func(v impl.Vec) bool { return v.X < -most || v.X > most || v.Y < -most || v.Y > most })
}

// wantedScene is what the document asks of a scene, without the package.
func wantedScene(s impl.Scene) bool {
	isSolid := func(l []impl.Vec, most int) bool { return len(l) <= 5 && wantedPolygon(l) && isWithin(l, most) }
	if !isWithin([]impl.Vec{s.Low, s.High}, 200) || s.Low.X >= s.High.X || s.Low.Y >= s.High.Y || !isSolid(s.Robot, 20) {
		return false
	}
	for _, obstacle := range s.Obstacles {
		if !isSolid(obstacle, 200) {
			return false
		}
	}
	return len(s.Obstacles) <= 4 && len(s.Tables) <= 3 && isWithin(s.Tables, 200)
}

// wantedLines are the lines of a scene, whether it is valid or not.
func wantedLines(s impl.Scene) string {
	text := "room " + textOf([]impl.Vec{s.Low, s.High}) + "\nrobot " + textOf(s.Robot) + "\n"
	for _, obstacle := range s.Obstacles {
		text += "obstacle " + textOf(obstacle) + "\n"
	}
	for _, table := range s.Tables {
		text += "table " + textOf([]impl.Vec{table}) + "\n"
	}
	return text
}

var sceneLines = regexp.MustCompile(`^room ([^\n]*)\nrobot ([^\n]*)\n((?:obstacle [^\n]*\n)*)((?:table [^\n]*\n)*)$`)

// wantedParse is what ParseScene returns: it reads loosely and then looks whether the lines come out again.
func wantedParse(text string) (impl.Scene, bool) {
	parts := sceneLines.FindStringSubmatch(text)
	if parts == nil {
		return impl.Scene{}, false
	}
	var s impl.Scene
	if room, _ := cornersOf(parts[1]); len(room) == 2 {
		s.Low, s.High = room[0], room[1]
	}
	s.Robot, _ = cornersOf(parts[2])
	for line := range strings.Lines(parts[3]) {
		obstacle, _ := cornersOf(strings.TrimSuffix(strings.TrimPrefix(line, "obstacle "), "\n"))
		s.Obstacles = append(s.Obstacles, obstacle)
	}
	for line := range strings.Lines(parts[4]) {
		table, _ := cornersOf(strings.TrimSuffix(strings.TrimPrefix(line, "table "), "\n"))
		s.Tables = append(s.Tables, table...)
	}
	if !wantedScene(s) || wantedLines(s) != text {
		return impl.Scene{}, false
	}
	return s, true
}

func TestSceneLimits(t *testing.T) {
	if impl.MaxRoom != 200 || impl.MaxSize != 20 || impl.MaxRobotCorners != 5 || impl.MaxObstacles != 4 || impl.MaxTables != 3 {
		t.Errorf("the limits are %d, %d, %d, %d and %d", impl.MaxRoom, impl.MaxSize, impl.MaxRobotCorners, impl.MaxObstacles, impl.MaxTables)
	}
}

func TestIsValidScene(t *testing.T) {
	for name, scenes := range validScenes() {
		for _, s := range scenes {
			if !impl.IsValidScene(s) || !wantedScene(s) {
				t.Errorf("%s: IsValidScene(%v) is false", name, s)
			}
		}
	}
	for _, s := range randomScenes(101) {
		if !impl.IsValidScene(s) {
			t.Errorf("IsValidScene(%v) is false", s)
		}
	}
	for name, scenes := range badScenes() {
		for _, s := range scenes {
			if impl.IsValidScene(s) || wantedScene(s) {
				t.Errorf("%s: IsValidScene(%v) is true", name, s)
			}
		}
	}
}

// P15: every coordinate of a scene, at the ends of what is permitted, one beyond, and at the ends of the ints.
func TestIsValidSceneAtEveryCoordinate(t *testing.T) {
	values := []int{0, 1, -1, 5, 1000, -1000, 1001, -1001, 1 << 32, -1 << 32, math.MinInt, math.MinInt + 1, math.MaxInt, math.MaxInt - 1}
	for n := range 3 {
		values = append(values, 19+n, -19-n, 199+n, -199-n)
	}
	found := map[bool]int{}
	for _, s := range append(allValidScenes(), smallScene(), fullScene()) {
		c := copiedScene(s)
		for _, at := range coordinatesOf(&c) {
			was := *at
			for _, n := range values {
				*at = n
				want := wantedScene(c)
				if got := impl.IsValidScene(c); got != want {
					t.Fatalf("IsValidScene(%v) is %v", c, got)
				}
				found[want]++
			}
			*at = was
		}
	}
	if found[true] < 10000 || found[false] < 10000 {
		t.Errorf("the scenes are too much alike: %v", found)
	}
}

func TestFormatScene(t *testing.T) {
	cases := []struct {
		name string
		s    impl.Scene
		want string
	}{
		{"ordinary", plainScene(), plainText},
		{"the smallest", smallScene(), "room 0,0 1,1\nrobot 0,0 1,0 0,1\n"},
		{"the fullest", fullScene(), "room -200,-200 200,200\nrobot -20,-20 20,-20 20,0 0,20 -20,20\n" +
			strings.Repeat("obstacle -200,-200 200,-200 200,0 0,200 -200,200\n", 4) + "table -200,-200\ntable 200,200\ntable -200,200\n"},
		{"no obstacle", withObstacles(), "room -10,-5 30,25\nrobot -1,-2 3,-1 1,2\ntable 5,5\ntable -7,20\n"},
		{"no table", withTables(nil), strings.TrimSuffix(plainText, "table 5,5\ntable -7,20\n")},
		{"tables in their order", withTables(vecs(9, 9, 1, 1, 5, 5)), strings.Replace(plainText, "table 5,5\ntable -7,20\n", "table 9,9\ntable 1,1\ntable 5,5\n", 1)},
		{"another first corner", withRobot(vecs(3, -1, 1, 2, -1, -2)), strings.Replace(plainText, "-1,-2 3,-1 1,2", "3,-1 1,2 -1,-2", 1)},
	}
	for _, c := range cases {
		if got := impl.FormatScene(c.s); got != c.want {
			t.Errorf("%s: %q, want %q", c.name, got, c.want)
		}
		if got, ok := impl.ParseScene(c.want); !equalScenes(got, c.s) || !ok {
			t.Errorf("%s: ParseScene = %v, %v", c.name, got, ok)
		}
	}
}

// P1: scenes are recovered from their text.
func TestSceneIsRecoveredFromItsText(t *testing.T) {
	for _, s := range allValidScenes() {
		text := impl.FormatScene(s)
		if want := wantedLines(s); text != want {
			t.Errorf("FormatScene(%v) = %q, want %q", s, text, want)
		}
		got, ok := impl.ParseScene(text)
		if !equalScenes(got, s) || !ok || !impl.SameScene(got, s) || impl.SceneChecksum(got) != impl.SceneChecksum(s) {
			t.Errorf("ParseScene(%q) = %v, %v", text, got, ok)
		}
	}
}

func TestNoTextIsThatOfABadScene(t *testing.T) {
	for name, scenes := range badScenes() {
		for _, s := range scenes {
			if got := impl.FormatScene(s); got != "" {
				t.Errorf("%s: FormatScene(%v) = %q", name, s, got)
			}
			if got, ok := impl.ParseScene(wantedLines(s)); !isZeroScene(got) || ok {
				t.Errorf("%s: ParseScene(%q) = %v, %v", name, wantedLines(s), got, ok)
			}
		}
	}
}

func TestParseSceneRefusesWhatFormatSceneNeverWrites(t *testing.T) {
	const small = "room 0,0 9,9\nrobot 0,0 1,0 0,1\n"
	bad := []string{
		"", "\n", "\n\n", " ", "room", "room 0,0 9,9", "room 0,0 9,9\n", "robot 0,0 1,0 0,1\n", "table 1,1\n", "obstacle 0,0 1,0 0,1\n", "obstacle 0,0 1,0 0,1\ntable 1,1\n",
		"room 0,0 9,9\nrobot 0,0 1,0 0,1", small + "table 1,1", small + "obstacle 0,0 1,0 0,1", "robot 0,0 1,0 0,1\nroom 0,0 9,9\n", small + small,
		"room 0,0 9,9\n" + small, small + "robot 0,0 1,0 0,1\n", small + "room 0,0 9,9\n", small + "robot 0,0 2,0 0,2\n", small + "room 0,0 8,8\n",
		small + "table 1,1\nobstacle 0,0 1,0 0,1\n", "table 1,1\n" + small, "obstacle 0,0 1,0 0,1\n" + small, "room 0,0 9,9\ntable 1,1\nrobot 0,0 1,0 0,1\n",
		small + "\n", "\n" + small, "room 0,0 9,9\n\nrobot 0,0 1,0 0,1\n", small + "x", small + " ", small + "end\n", small + "#\n", small + "# text\n", small + "table\n", small + "table \n", small + "obstacle\n",
		small + "Table 1,1\n", small + "tables 1,1\n", small + "tabl 1,1\n", small + "wall 0,0 1,0 0,1\n", "Room 0,0 9,9\nrobot 0,0 1,0 0,1\n", "room 0,0 9,9\nrobo 0,0 1,0 0,1\n", "room0,0 9,9\nrobot 0,0 1,0 0,1\n",
		" " + small, "room  0,0 9,9\nrobot 0,0 1,0 0,1\n", "room 0,0  9,9\nrobot 0,0 1,0 0,1\n", "room 0,0 9,9 \nrobot 0,0 1,0 0,1\n", "room 0,0 9,9\n robot 0,0 1,0 0,1\n", "room 0,0 9,9\nrobot 0,0 1,0 0,1 \n",
		"room 0,0 9,9\nrobot  0,0 1,0 0,1\n", "room 0,0 9,9\nrobot 0,0  1,0 0,1\n", small + " table 1,1\n", small + "table  1,1\n", small + "table 1,1 \n", small + "table 1, 1\n", small + "table 1 ,1\n", small + "obstacle 0,0 1,0 0,1 \n",
		"room\t0,0 9,9\nrobot 0,0 1,0 0,1\n", "room 0,0\t9,9\nrobot 0,0 1,0 0,1\n", "room 0,0 9,9\r\nrobot 0,0 1,0 0,1\r\n", "room 0,0 9,9\rrobot 0,0 1,0 0,1\n",
		"room 0,0 09,9\nrobot 0,0 1,0 0,1\n", "room -0,0 9,9\nrobot 0,0 1,0 0,1\n", "room 0,0 +9,9\nrobot 0,0 1,0 0,1\n", "room 0,0 9/1,9\nrobot 0,0 1,0 0,1\n", "room 0,0 9.0,9\nrobot 0,0 1,0 0,1\n", "room 0,0 9e0,9\nrobot 0,0 1,0 0,1\n",
		small + "table 01,1\n", small + "table 1,-0\n", small + "table +1,1\n", small + "table 1/2,1\n", small + "table 0x1,1\n", small + "table 1,\uff11\n",
		"room 0,0\nrobot 0,0 1,0 0,1\n", "room 0,0 9,9 5,5\nrobot 0,0 1,0 0,1\n", "room 0,0,9,9\nrobot 0,0 1,0 0,1\n", "room 0 0 9 9\nrobot 0,0 1,0 0,1\n", small + "table 1,1 2,2\n", small + "table 1\n", small + "table 1,1,1\n",
		"room 0,0 9,9\nrobot 0,0 1,0\n", "room 0,0 9,9\nrobot\n", "room 0,0 9,9\nrobot \n", "room 0,0 9,9\nrobot 0,0 0,1 1,0\n", small + "obstacle 0,0 0,1 1,0\n", small + "obstacle 0,0 1,0 2,0\n", small + "obstacle 0,0 4,0 1,1 0,4\n",
		"room 9,9 0,0\nrobot 0,0 1,0 0,1\n", "room 0,0 0,9\nrobot 0,0 1,0 0,1\n", "room 0,0 201,9\nrobot 0,0 1,0 0,1\n", "room 0,0 9,9\nrobot 0,0 21,0 0,1\n", small + "table 201,1\n", small + "table 1001,1\n",
		small + "table 9223372036854775808,1\n", small + "table 18446744073709551617,1\n", small + "table 9223372036854775807,1\n", small + "table 1,-9223372036854775808\n", "room -9223372036854775808,0 9,9\nrobot 0,0 1,0 0,1\n",
		small + strings.Repeat("table 1,1\n", 4), small + strings.Repeat("table 1,1\n", 3000), small + strings.Repeat("obstacle 0,0 1,0 0,1\n", 5), small + strings.Repeat("obstacle 0,0 1,0 0,1\n", 3000),
		strings.Repeat(small, 1000), strings.Repeat("\n", 3000), strings.Repeat(" ", 3000), strings.Repeat("room ", 3000), small + "table " + strings.Repeat("1", 5000) + ",1\n", small + "\x00", "\x00" + small, small + "table 1,1\x00\n",
	}
	for _, s := range notUTF8 {
		bad = append(bad, s, s+small, small+s, small+s+"\n", small+"table "+s+"\n", "room "+s+" 9,9\nrobot 0,0 1,0 0,1\n")
	}
	for _, text := range bad {
		if got, ok := impl.ParseScene(text); !isZeroScene(got) || ok {
			t.Errorf("ParseScene(%.60q) = %v, %v", text, got, ok)
		}
	}
	if got, ok := impl.ParseScene(small); !equalScenes(got, impl.Scene{High: impl.Vec{X: 9, Y: 9}, Robot: vecs(0, 0, 1, 0, 0, 1)}) || !ok {
		t.Errorf("ParseScene(%q) = %v, %v", small, got, ok)
	}
}

func checkParse(t *testing.T, text string) bool {
	t.Helper()
	want, wantOk := wantedParse(text)
	if got, ok := impl.ParseScene(text); !equalScenes(got, want) || ok != wantOk {
		t.Fatalf("ParseScene(%q) = %v, %v, want %v, %v", text, got, ok, want, wantOk)
	}
	return wantOk
}

// Every list of up to six lines, of which some are malformed. 14 of them are scenes.
func TestParseSceneOnAllShortLists(t *testing.T) {
	lines := map[rune]string{'r': "room 0,0 9,9\n", 'b': "robot 0,0 1,0 0,1\n", 'o': "obstacle 3,3 4,3 3,4\n", 't': "table 5,5\n", 'e': "\n", 'x': "robot 0,0 1,0\n"}
	found := 0
	forAllTexts("rbotex", 6, func(s string) {
		text := ""
		for _, letter := range s {
			text += lines[letter]
		}
		if checkParse(t, text) {
			found++
		}
	})
	if found != 14 {
		t.Errorf("%d lists of lines are scenes", found)
	}
}

// Every text that differs from that of a scene in one byte, in one line, or in where it begins or ends.
func TestParseSceneOnTextsNearby(t *testing.T) {
	found := 0
	check := func(text string) {
		if checkParse(t, text) {
			found++
		}
	}
	for _, s := range []impl.Scene{plainScene(), smallScene(), fullScene(), withObstacles(), withTables(nil)} {
		text := wantedLines(s)
		forTextsNearby(text, "-+,/ \n\x00019ort", check)
		lines := strings.SplitAfter(text, "\n")
		for i := range lines {
			for k := range lines {
				check(strings.Join(slices.Insert(slices.Clone(lines), k, lines[i]), ""))
				swapped := slices.Clone(lines)
				swapped[i], swapped[k] = lines[k], lines[i]
				check(strings.Join(swapped, ""))
			}
			check(strings.Join(slices.Delete(slices.Clone(lines), i, i+1), ""))
		}
	}
	if found < 1000 {
		t.Errorf("only %d of the texts are scenes", found)
	}
}

// Texts of words that occur in scenes, in any order: no line makes ParseScene panic.
func TestParseSceneOnWordsOfScenes(t *testing.T) {
	random := rand.New(rand.NewSource(102))
	words := []string{"room ", "robot ", "obstacle ", "table ", "0,0", "1,0", "0,1", "9,9", "-1", ",", " ", " ", "\n", "\n", "x", "\xff"}
	for range 20000 {
		text := ""
		if random.Intn(2) == 0 {
			text = "room 0,0 9,9\nrobot 0,0 1,0 0,1\n"
		}
		for range random.Intn(12) {
			text += words[random.Intn(len(words))]
		}
		checkParse(t, text)
	}
}

// wantedChange is the scene with other obstacles if it is valid before and after that, and otherwise as it was.
func wantedChange(s impl.Scene, change func(l [][]impl.Vec) [][]impl.Vec) (impl.Scene, bool) {
	c := copiedScene(s)
	c.Obstacles = change(c.Obstacles)
	if !wantedScene(s) || !wantedScene(c) {
		return s, false
	}
	return c, true
}

func wantedAdd(s impl.Scene, l []impl.Vec) (impl.Scene, bool) {
	return wantedChange(s, func(obstacles [][]impl.Vec) [][]impl.Vec { return append(obstacles, l) })
}

func wantedRemove(s impl.Scene, k int) (impl.Scene, bool) {
	if k < 0 || k >= len(s.Obstacles) {
		return s, false
	}
	return wantedChange(s, func(l [][]impl.Vec) [][]impl.Vec { return slices.Concat(l[:k], l[k+1:]) })
}

func wantedShift(s impl.Scene, k int, v impl.Vec) (impl.Scene, bool) {
	if k < 0 || k >= len(s.Obstacles) || !isInRange(v) {
		return s, false
	}
	return wantedChange(s, func(l [][]impl.Vec) [][]impl.Vec {
		return slices.Concat(l[:k], [][]impl.Vec{movedBy(l[k], v)}, l[k+1:])
	})
}

// checkAdd, checkRemove and checkShift also look at what is returned if a change is refused: the scene unchanged.

func checkAdd(t *testing.T, s impl.Scene, l []impl.Vec) bool {
	t.Helper()
	want, wantOk := wantedAdd(s, l)
	if got, ok := impl.AddObstacle(s, l); !equalScenes(got, want) || ok != wantOk {
		t.Fatalf("AddObstacle(%v, %v) = %v, %v, want %v, %v", s, l, got, ok, want, wantOk)
	}
	return wantOk
}

func checkRemove(t *testing.T, s impl.Scene, k int) bool {
	t.Helper()
	want, wantOk := wantedRemove(s, k)
	if got, ok := impl.RemoveObstacle(s, k); !equalScenes(got, want) || ok != wantOk {
		t.Fatalf("RemoveObstacle(%v, %d) = %v, %v, want %v, %v", s, k, got, ok, want, wantOk)
	}
	return wantOk
}

func checkShift(t *testing.T, s impl.Scene, k int, v impl.Vec) bool {
	t.Helper()
	want, wantOk := wantedShift(s, k, v)
	if got, ok := impl.ShiftObstacle(s, k, v); !equalScenes(got, want) || ok != wantOk {
		t.Fatalf("ShiftObstacle(%v, %d, %v) = %v, %v, want %v, %v", s, k, v, got, ok, want, wantOk)
	}
	return wantOk
}

// badIndices are below 0 or behind the last one of n.
func badIndices(n int) []int {
	return []int{-1, -2, n, n + 1, 100, -100, 1 << 32, -1 << 32, math.MinInt, math.MinInt + 1, math.MaxInt, math.MaxInt - 1}
}

func TestAddObstacle(t *testing.T) {
	first, second, third, fourth := smallSquare(), pentagon(), vecs(-200, -200, -199, -200, -200, -199), vecs(200, 200, 100, 200, 150, 150)
	s := withObstacles()
	for i, l := range [][]impl.Vec{first, second, third, fourth} {
		got, ok := impl.AddObstacle(s, l)
		if want := withObstacles([][]impl.Vec{first, second, third, fourth}[:i+1]...); !equalScenes(got, want) || !ok {
			t.Errorf("AddObstacle(%v, %v) = %v, %v", s, l, got, ok)
		}
		s = got
	}
	for _, l := range append(solids(), first, fourth, nil) {
		if got, ok := impl.AddObstacle(s, l); !equalScenes(got, s) || ok {
			t.Errorf("AddObstacle(%v, %v) = %v, %v", s, l, got, ok)
		}
	}
	refused := append(inOrder(badPolygons()), bowl(6), heptagon(), ring(), vecs(-201, 0, 0, 0, 0, 1), vecs(0, -201, 1, 0, 0, 0), vecs(201, 0, 1, 1, 0, 0), vecs(0, 201, 0, 0, 1, 0), largestSquare())
	for _, s := range []impl.Scene{plainScene(), smallScene(), withObstacles(first)} {
		for _, l := range refused {
			if got, ok := impl.AddObstacle(s, l); !equalScenes(got, s) || ok {
				t.Errorf("AddObstacle(%v, %v) = %v, %v", s, l, got, ok)
			}
		}
	}
}

func TestRemoveObstacle(t *testing.T) {
	a, b, c, d := smallSquare(), pentagon(), bowl(3), vecs(7, 7, 8, 7, 7, 8)
	cases := []struct {
		name      string
		obstacles [][]impl.Vec
		k         int
		want      [][]impl.Vec
	}{
		{"the only one", [][]impl.Vec{a}, 0, nil},
		{"the first of two", [][]impl.Vec{a, b}, 0, [][]impl.Vec{b}},
		{"the last of two", [][]impl.Vec{a, b}, 1, [][]impl.Vec{a}},
		{"the first of four", [][]impl.Vec{a, b, c, d}, 0, [][]impl.Vec{b, c, d}},
		{"one in the middle", [][]impl.Vec{a, b, c, d}, 1, [][]impl.Vec{a, c, d}},
		{"another one in the middle", [][]impl.Vec{a, b, c, d}, 2, [][]impl.Vec{a, b, d}},
		{"the last of four", [][]impl.Vec{a, b, c, d}, 3, [][]impl.Vec{a, b, c}},
		{"one of equal ones", [][]impl.Vec{a, a, b}, 1, [][]impl.Vec{a, b}},
	}
	for _, c := range cases {
		s := withObstacles(c.obstacles...)
		if got, ok := impl.RemoveObstacle(s, c.k); !equalScenes(got, withObstacles(c.want...)) || !ok {
			t.Errorf("%s: RemoveObstacle(%v, %d) = %v, %v", c.name, s, c.k, got, ok)
		}
		for _, k := range badIndices(len(c.obstacles)) {
			if got, ok := impl.RemoveObstacle(s, k); !equalScenes(got, s) || ok {
				t.Errorf("RemoveObstacle(%v, %d) = %v, %v", s, k, got, ok)
			}
		}
	}
	for _, k := range append(badIndices(0), 0, 1) {
		if got, ok := impl.RemoveObstacle(smallScene(), k); !equalScenes(got, smallScene()) || ok {
			t.Errorf("RemoveObstacle(%v, %d) = %v, %v", smallScene(), k, got, ok)
		}
	}
}

func TestShiftObstacle(t *testing.T) {
	a, b, c := vecs(0, 0, 2, 0, 2, 3, 0, 3), vecs(-200, -200, -199, -200, -200, -199), vecs(200, 200, 150, 200, 180, 170)
	obstacles := [][]impl.Vec{a, b, c}
	cases := []struct {
		name string
		k    int
		v    impl.Vec
		want []impl.Vec
	}{
		{"the first", 0, impl.Vec{X: 5, Y: -7}, vecs(5, -7, 7, -7, 7, -4, 5, -4)},
		{"the middle one", 1, impl.Vec{X: 1, Y: 2}, vecs(-199, -198, -198, -198, -199, -197)},
		{"the last", 2, impl.Vec{X: -10, Y: -20}, vecs(190, 180, 140, 180, 170, 150)},
		{"by 0", 0, impl.Vec{}, a},
		{"by 0 at the border", 1, impl.Vec{}, b},
		{"by 0 at the other border", 2, impl.Vec{}, c},
		{"to MaxRoom along X", 0, impl.Vec{X: 198}, vecs(198, 0, 200, 0, 200, 3, 198, 3)},
		{"to MaxRoom along Y", 0, impl.Vec{Y: 197}, vecs(0, 197, 2, 197, 2, 200, 0, 200)},
		{"to -MaxRoom along X", 0, impl.Vec{X: -200}, vecs(-200, 0, -198, 0, -198, 3, -200, 3)},
		{"to -MaxRoom along Y", 0, impl.Vec{Y: -200}, vecs(0, -200, 2, -200, 2, -197, 0, -197)},
		{"from one border to the other", 1, impl.Vec{X: 399, Y: 399}, vecs(199, 199, 200, 199, 199, 200)},
		{"from the other border to the first", 2, impl.Vec{X: -350, Y: -370}, vecs(-150, -170, -200, -170, -170, -200)},
		{"out of MaxRoom along X", 0, impl.Vec{X: 199}, nil},
		{"out of MaxRoom along Y", 0, impl.Vec{Y: 198}, nil},
		{"out of -MaxRoom along X", 0, impl.Vec{X: -201}, nil},
		{"out of -MaxRoom along Y", 0, impl.Vec{Y: -201}, nil},
		{"just out of the border", 1, impl.Vec{X: -1}, nil},
		{"just out of the other border", 2, impl.Vec{Y: 1}, nil},
		{"one more than from border to border", 1, impl.Vec{X: 400, Y: 399}, nil},
		{"as far as a vector leads", 0, impl.Vec{X: 1000, Y: 1000}, nil},
		{"as far as a vector leads, back", 0, impl.Vec{X: -1000}, nil},
		{"by what is no vector", 0, impl.Vec{X: 1001}, nil},
		{"by the greatest int", 0, impl.Vec{X: math.MaxInt, Y: math.MaxInt}, nil},
		{"by the least int", 0, impl.Vec{X: math.MinInt, Y: math.MinInt}, nil},
	}
	for _, c := range cases {
		s, want := withObstacles(obstacles...), slices.Clone(obstacles)
		if c.want != nil {
			want[c.k] = c.want
		}
		if got, ok := impl.ShiftObstacle(s, c.k, c.v); !equalScenes(got, withObstacles(want...)) || ok != (c.want != nil) {
			t.Errorf("%s: ShiftObstacle(%v, %d, %v) = %v, %v", c.name, s, c.k, c.v, got, ok)
		}
		for _, k := range badIndices(len(obstacles)) {
			if got, ok := impl.ShiftObstacle(s, k, c.v); !equalScenes(got, s) || ok {
				t.Errorf("%s: ShiftObstacle(%v, %d, %v) = %v, %v", c.name, s, k, c.v, got, ok)
			}
		}
	}
	for _, v := range badVecs() {
		for k := range 3 {
			checkShift(t, plainScene(), k, v)
		}
	}
}

// P15: random changes of random scenes, of which many are refused.
func TestChangesOfObstacles(t *testing.T) {
	random := rand.New(rand.NewSource(103))
	added, removed, shifted := map[bool]int{}, map[bool]int{}, map[bool]int{}
	bad := inOrder(badPolygons())
	for _, s := range allValidScenes() {
		for _, l := range append(solids(), bad[random.Intn(len(bad))], randomSolid(random, 200), randomSolid(random, 202)) {
			added[checkAdd(t, s, l)]++
		}
		for k := -1; k <= len(s.Obstacles); k++ {
			removed[checkRemove(t, s, k)]++
			for _, v := range append(randomVecs(random, 3, 20), randomVecs(random, 5, 300)...) {
				shifted[checkShift(t, s, k, v)]++
			}
		}
	}
	for _, found := range []map[bool]int{added, removed, shifted} {
		if found[true] < 300 || found[false] < 300 {
			t.Errorf("the changes are too much alike: %v", found)
		}
	}
}

// A scene that is not valid is returned as it is, even if the change would make it valid.
func TestChangesOfBadScenes(t *testing.T) {
	for name, scenes := range badScenes() {
		for _, s := range scenes {
			ok := checkAdd(t, s, smallSquare()) || checkAdd(t, s, nil)
			for k := -1; k <= len(s.Obstacles); k++ {
				ok = ok || checkRemove(t, s, k) || checkShift(t, s, k, impl.Vec{}) || checkShift(t, s, k, impl.Vec{X: -1, Y: 1}) || checkShift(t, s, k, impl.Vec{X: 1, Y: -1})
			}
			if ok {
				t.Errorf("%s: a change of %v succeeds", name, s)
			}
		}
	}
}

// P1: an obstacle that is added and removed changes nothing, and neither does one that is shifted and shifted back.
func TestChangesTakenBack(t *testing.T) {
	random := rand.New(rand.NewSource(104))
	same := func(a, b impl.Scene) bool {
		return equalScenes(a, b) && impl.SameScene(a, b) && impl.FormatScene(a) == impl.FormatScene(b) && impl.SceneChecksum(a) == impl.SceneChecksum(b)
	}
	found := [3]int{}
	for _, s := range allValidScenes() {
		n := len(s.Obstacles)
		if more, ok := impl.AddObstacle(s, randomSolid(random, 200)); ok {
			if back, ok := impl.RemoveObstacle(more, n); !ok || !same(back, s) || impl.SameScene(more, s) || impl.FormatScene(more) == impl.FormatScene(s) {
				t.Fatalf("%v with one obstacle more is %v, and without it %v", s, more, back)
			}
			found[0]++
		}
		for k := range n {
			last, _ := impl.RemoveObstacle(s, k)
			again, ok := impl.AddObstacle(last, s.Obstacles[k])
			if want := slices.Concat(s.Obstacles[:k], s.Obstacles[k+1:], s.Obstacles[k:k+1]); !ok || !slices.EqualFunc(again.Obstacles, want, slices.Equal) {
				t.Fatalf("%v with the obstacle %d removed and added is %v", s, k, again)
			}
			found[1]++
			v := randomVecs(random, 1, 30)[0]
			if moved, ok := impl.ShiftObstacle(s, k, v); ok {
				if back, ok := impl.ShiftObstacle(moved, k, impl.Vec{X: -v.X, Y: -v.Y}); !ok || !same(back, s) {
					t.Fatalf("%v with the obstacle %d shifted by %v is %v, and shifted back %v", s, k, v, moved, back)
				}
				found[2]++
			}
		}
	}
	if found[0] < 100 || found[1] < 100 || found[2] < 100 {
		t.Errorf("too few changes are taken back: %v", found)
	}
}

func TestSameScene(t *testing.T) {
	different := []impl.Scene{
		{}, smallScene(), fullScene(), withObstacles(), withTables(nil), withRobot(nil), withRobot(startedAt(plainScene().Robot, 1)), withRobot(reversed(plainScene().Robot)),
		withTables(vecs(-7, 20, 5, 5)), withTables(vecs(5, 5)), withTables(vecs(5, 5, -7, 20, -7, 20)), withTables(vecs(5, 5, -7, 20, 0, 0)),
		changedScene(func(s *impl.Scene) { s.Obstacles = s.Obstacles[:2] }),
		changedScene(func(s *impl.Scene) { s.Obstacles = s.Obstacles[1:] }),
		changedScene(func(s *impl.Scene) { s.Obstacles = append(s.Obstacles, smallSquare()) }),
		changedScene(func(s *impl.Scene) { s.Obstacles = append(s.Obstacles, nil) }),
		changedScene(func(s *impl.Scene) { slices.Reverse(s.Obstacles) }),
		changedScene(func(s *impl.Scene) { s.Obstacles[1] = startedAt(s.Obstacles[1], 1) }),
		changedScene(func(s *impl.Scene) { s.Obstacles[2] = s.Obstacles[2][:4] }),
		changedScene(func(s *impl.Scene) { s.Obstacles[2] = nil }),
		changedScene(func(s *impl.Scene) { s.Low, s.High = s.High, s.Low }),
	}
	for i, s := range append(different, plainScene()) {
		for k, other := range append(different, plainScene()) {
			if got := impl.SameScene(s, copiedScene(other)); got != (i == k) {
				t.Errorf("SameScene(%v, %v) is %v", s, other, got)
			}
		}
	}
}

func TestSameSceneComparesEveryCoordinate(t *testing.T) {
	for _, s := range append(allValidScenes(), inOrder(badScenes())...) {
		c := copiedScene(s)
		if !impl.SameScene(s, c) || !impl.SameScene(c, s) {
			t.Errorf("SameScene of %v and a copy is false", s)
		}
		for _, at := range coordinatesOf(&c) {
			*at ^= 1
			if impl.SameScene(s, c) || impl.SameScene(c, s) {
				t.Errorf("SameScene(%v, %v) is true", s, c)
			}
			*at ^= 1
		}
	}
}

func TestSameSceneTakesNoneForEmpty(t *testing.T) {
	empty := impl.Scene{Robot: []impl.Vec{}, Obstacles: [][]impl.Vec{}, Tables: []impl.Vec{}}
	none, some := withObstacles(nil), withObstacles([]impl.Vec{})
	none.Tables, some.Tables = nil, []impl.Vec{}
	if !impl.SameScene(empty, impl.Scene{}) || !impl.SameScene(impl.Scene{}, empty) || !impl.SameScene(none, some) || !impl.SameScene(some, none) {
		t.Error("SameScene tells nil from empty lists")
	}
}

// The checksums are calculated by hand. The first bytes of a scene, `room `, lead from 7 to 331, 10372, 59559, 11850 and
// 39777: 31 * 7 + 114 = 331, 31 * 331 + 111 = 10372, 31 * 10372 + 111 = 321643 = 4 * 65521 + 59559, and so on.
func TestSceneChecksum(t *testing.T) {
	given := impl.Scene{High: impl.Vec{X: 20, Y: 10}, Robot: vecs(-1, -1, 1, -1, 1, 1, -1, 1), Obstacles: [][]impl.Vec{vecs(8, 3, 12, 3, 12, 7, 8, 7)}, Tables: vecs(4, 5)}
	large := impl.Scene{Low: impl.Vec{X: -200, Y: -200}, High: impl.Vec{X: 200, Y: 200}, Robot: vecs(0, 0, 1, 0, 0, 1), Tables: vecs(0, 0)}
	for want, s := range map[int]impl.Scene{39293: smallScene(), 38652: given, 60354: large} {
		if got := impl.SceneChecksum(s); got != want {
			t.Errorf("SceneChecksum(%v) = %d, want %d", s, got, want)
		}
	}
}

// wantedChecksum writes the text as one number in base 31, behind a digit 7, and takes the remainder only once.
func wantedChecksum(s impl.Scene) int {
	sum := big.NewInt(7)
	for _, b := range []byte(wantedLines(s)) {
		sum.Add(sum.Mul(sum, big.NewInt(31)), big.NewInt(int64(b)))
	}
	return int(sum.Mod(sum, big.NewInt(65521)).Int64())
}

func TestSceneChecksumIsThatOfTheText(t *testing.T) {
	found := map[int]int{}
	for _, s := range allValidScenes() {
		got, want := impl.SceneChecksum(s), wantedChecksum(s)
		if got != want {
			t.Errorf("SceneChecksum(%v) = %d, want %d", s, got, want)
		}
		found[got]++
	}
	if len(found) < 300 {
		t.Errorf("the scenes have only %d checksums", len(found))
	}
	for name, scenes := range badScenes() {
		for _, s := range scenes {
			if got := impl.SceneChecksum(s); got != -1 {
				t.Errorf("%s: SceneChecksum(%v) = %d", name, s, got)
			}
		}
	}
}

// framedScene lays every list of s between others, so that a write before it or into its spare capacity is seen.
func framedScene(s impl.Scene) (inside impl.Scene, isUnchanged func() bool) {
	var rows, was [][]impl.Vec
	frame := func(l []impl.Vec) []impl.Vec {
		row, in := framedVecs(l)
		rows, was = append(rows, row), append(was, slices.Clone(row))
		return in
	}
	inside = impl.Scene{Low: s.Low, High: s.High, Robot: frame(s.Robot), Tables: frame(s.Tables)}
	obstacles := [][]impl.Vec{frame(vecs(-7, -7))}
	for _, obstacle := range s.Obstacles {
		obstacles = append(obstacles, frame(obstacle))
	}
	inside.Obstacles = obstacles[1:]
	for range 10 {
		obstacles = append(obstacles, frame(vecs(-7, -7)))
	}
	inside.Obstacles = obstacles[1 : 1+len(s.Obstacles)]
	wasObstacles := listsOf(copiedScene(impl.Scene{Obstacles: obstacles}))[3:]
	return inside, func() bool {
		return slices.EqualFunc(rows, was, slices.Equal) && slices.EqualFunc(obstacles, wasObstacles, slices.Equal)
	}
}

// sceneResults are the results of all functions that return a scene: of changes, refused ones, and of the text.
func sceneResults(s impl.Scene, l []impl.Vec) map[string]impl.Scene {
	impl.IsValidScene(s)
	impl.SameScene(s, s)
	impl.SceneChecksum(s)
	results := map[string]impl.Scene{}
	results["ParseScene"], _ = impl.ParseScene(impl.FormatScene(s))
	results["AddObstacle"], _ = impl.AddObstacle(s, l)
	results["AddObstacle refused"], _ = impl.AddObstacle(s, nil)
	results["RemoveObstacle"], _ = impl.RemoveObstacle(s, 0)
	results["RemoveObstacle in the middle"], _ = impl.RemoveObstacle(s, 1)
	results["RemoveObstacle refused"], _ = impl.RemoveObstacle(s, -1)
	results["ShiftObstacle"], _ = impl.ShiftObstacle(s, 0, impl.Vec{X: 1, Y: 1})
	results["ShiftObstacle by 0"], _ = impl.ShiftObstacle(s, len(s.Obstacles)-1, impl.Vec{})
	results["ShiftObstacle refused"], _ = impl.ShiftObstacle(s, 0, impl.Vec{X: 1000})
	results["ShiftObstacle of no obstacle"], _ = impl.ShiftObstacle(s, len(s.Obstacles), impl.Vec{})
	return results
}

func overwriteScene(s impl.Scene) {
	for _, l := range append(listsOf(s)[1:], s.Obstacles[:cap(s.Obstacles)]...) {
		overwriteVecs(l)
	}
	clear(s.Obstacles[:cap(s.Obstacles)])
}

// someScenes are valid ones and others, fewer than all.
func someScenes() []impl.Scene {
	l := append(randomScenes(105)[:100], plainScene(), smallScene(), fullScene(), withObstacles(), withTables(nil))
	for _, scenes := range badScenes() {
		l = append(l, scenes[0], scenes[len(scenes)-1])
	}
	return l
}

func TestSceneFunctionsLeaveTheirArgumentsAlone(t *testing.T) {
	for _, s := range someScenes() {
		inside, isUnchanged := framedScene(s)
		row, obstacle := framedVecs(pentagon())
		was := slices.Clone(row)
		for name, result := range sceneResults(inside, obstacle) {
			overwriteScene(result)
			if !isUnchanged() || !slices.Equal(row, was) {
				t.Fatalf("%s of %v, or a write to its result, changed an argument", name, s)
			}
		}
	}
}

func TestSceneResultsAreNewEachTime(t *testing.T) {
	for _, s := range someScenes() {
		want := map[string]impl.Scene{}
		for name, result := range sceneResults(s, pentagon()) {
			want[name] = copiedScene(result)
			overwriteScene(result)
		}
		for name, result := range sceneResults(s, pentagon()) {
			if !equalScenes(result, want[name]) {
				t.Fatalf("%s of %v is %v after its last result was changed", name, s, result)
			}
		}
	}
}

// No two lists of a result share memory, even where those of the argument do.
func TestListsOfASceneShareNoMemory(t *testing.T) {
	shared := vecs(0, 0, 9, 1, 3, 7)
	valid := impl.Scene{High: impl.Vec{X: 9, Y: 9}, Robot: shared, Obstacles: [][]impl.Vec{shared, shared, shared}, Tables: shared}
	bad := copiedScene(valid)
	bad.Robot, bad.Tables, bad.High = shared, shared, impl.Vec{}
	bad.Obstacles = [][]impl.Vec{shared, shared, shared, shared, shared}
	for _, s := range []impl.Scene{valid, bad} {
		for name := range sceneResults(s, shared) {
			for i := range 8 {
				result := sceneResults(s, shared)[name]
				lists := listsOf(result)[1:]
				if i >= len(lists) {
					continue
				}
				others := slices.Delete(slices.Clone(lists), i, i+1)
				was := listsOf(copiedScene(impl.Scene{Obstacles: others}))[3:]
				overwriteVecs(lists[i])
				if !slices.EqualFunc(others, was, slices.Equal) {
					t.Errorf("%s of %v: a write to one list changes another one", name, s)
				}
			}
		}
	}
}
