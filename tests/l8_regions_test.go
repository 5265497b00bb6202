package tests

import (
	"cmp"
	"math"
	"math/rand/v2"
	"slices"
	"strconv"
	"strings"
	"testing"

	"loop.example/g00889/impl"
)

// regionCase is a region and its grid.
type regionCase struct {
	wide   int
	high   int
	region []int
}

// drawn is the region of the cells that are # in a drawing.
func drawn(drawing string) regionCase {
	rows := strings.Split(drawing, "/")
	g := regionCase{len(rows[0]), len(rows), []int{}}
	for i, mark := range strings.Join(rows, "") {
		if mark == '#' {
			g.region = append(g.region, i)
		}
	}
	return g
}

func (g regionCase) String() string {
	rows := []string{}
	for y := range g.high {
		row := ""
		for x := range g.wide {
			row += either(g.has(x, y), "#", ".")
		}
		rows = append(rows, row)
	}
	return strings.Join(rows, "/")
}

func either[T any](is bool, yes T, no T) T {
	if is {
		return yes
	}
	return no
}

// has is false for cells beside the grid.
func (g regionCase) has(x int, y int) bool {
	return x >= 0 && x < g.wide && y >= 0 && y < g.high && slices.Contains(g.region, y*g.wide+x)
}

// loopOf makes Points of pairs of numbers.
func loopOf(numbers ...int) []impl.Point {
	loop := []impl.Point{}
	for pair := range slices.Chunk(numbers, 2) {
		loop = append(loop, impl.Point{X: pair[0], Y: pair[1]})
	}
	return loop
}

func plainAbove(f impl.Field, limit int) []int {
	region := []int{}
	for i, cell := range f.Cells {
		if cell != gone && cell > limit {
			region = append(region, i)
		}
	}
	return region
}

// plainParts gives every cell the smallest index that can be reached from it.
func plainParts(g regionCase) [][]int {
	least := map[int]int{}
	for _, i := range g.region {
		least[i] = i
	}
	for range g.region {
		for _, i := range g.region {
			for _, j := range g.region {
				if absolute(i%g.wide-j%g.wide)+absolute(i/g.wide-j/g.wide) == 1 {
					least[i] = min(least[i], least[j])
				}
			}
		}
	}
	parts := [][]int{}
	for _, first := range g.region {
		part := []int{}
		for _, i := range g.region {
			if least[i] == first {
				part = append(part, i)
			}
		}
		if len(part) > 0 {
			parts = append(parts, part)
		}
	}
	return parts
}

// walker goes along the sides of a region; its way is 0 to the right, 1 downward, 2 to the left
// and 3 upward.
type walker struct {
	x, y, way int
}

func (w walker) ahead() walker {
	return walker{w.x + []int{1, 0, -1, 0}[w.way], w.y + []int{0, 1, 0, -1}[w.way], w.way}
}

func (w walker) turned(by int) walker { return walker{w.x, w.y, (w.way + by) % 4} }

// onSide is true if there is a cell of the region on the right hand alone.
func (w walker) onSide(g regionCase) bool {
	right := g.has(w.x-[]int{0, 1, 1, 0}[w.way], w.y-[]int{0, 0, 1, 1}[w.way])
	left := g.has(w.x-[]int{0, 0, 1, 1}[w.way], w.y-[]int{1, 0, 0, 1}[w.way])
	return right && !left
}

// next turns to the right before it goes ahead, and to the left last.
func (w walker) next(g regionCase) walker {
	for _, by := range []int{1, 0, 3} {
		if there := w.ahead().turned(by); there.onSide(g) {
			return there
		}
	}
	panic("a loop that does not go on")
}

func comparePoints(p impl.Point, q impl.Point) int {
	return cmp.Or(cmp.Compare(p.Y, q.Y), cmp.Compare(p.X, q.X))
}

// plainLoops walks from every side, turns the lists to their first Points, and sorts them.
func plainLoops(g regionCase) [][]impl.Point {
	loops := [][]impl.Point{}
	seen := map[walker]bool{}
	for i := range (g.wide + 1) * (g.high + 1) * 4 {
		w := walker{i / 4 % (g.wide + 1), i / 4 / (g.wide + 1), i % 4}
		if !w.onSide(g) || seen[w] {
			continue
		}
		loop := []impl.Point{}
		for ; !seen[w]; w = w.next(g) {
			seen[w] = true
			if there := w.next(g); there.way != w.way {
				loop = append(loop, impl.Point{X: there.x, Y: there.y})
			}
		}
		first := slices.Index(loop, slices.MinFunc(loop, comparePoints))
		loops = append(loops, slices.Concat(loop[first:], loop[:first]))
	}
	slices.SortFunc(loops, func(a []impl.Point, b []impl.Point) int {
		return cmp.Or(comparePoints(a[0], b[0]), cmp.Compare(len(a), len(b)))
	})
	return loops
}

// plainLoopArea counts for every cell how often the loop goes around it.
func plainLoopArea(loop []impl.Point) int {
	area := 0
	for i, p := range loop {
		q := loop[(i+1)%len(loop)]
		for x := range 8 {
			for y := range 8 {
				if p.X > x && p.Y <= y && q.Y > y {
					area++
				}
				if p.X > x && q.Y <= y && p.Y > y {
					area--
				}
			}
		}
	}
	return area
}

// plainHoles counts the cells beside the region that are joined over sides and corners, without
// those that are joined with what is around the grid.
func plainHoles(g regionCase) int {
	seen := map[[2]int]bool{}
	var fill func(x int, y int)
	fill = func(x int, y int) {
		if x < -1 || x > g.wide || y < -1 || y > g.high || g.has(x, y) || seen[[2]int{x, y}] {
			return
		}
		seen[[2]int{x, y}] = true
		for i := range 9 {
			fill(x+i%3-1, y+i/3-1)
		}
	}
	fill(-1, -1)
	holes := 0
	for i := range g.wide * g.high {
		x, y := i%g.wide, i/g.wide
		if !g.has(x, y) && !seen[[2]int{x, y}] {
			holes++
			fill(x, y)
		}
	}
	return holes
}

func plainBorder(g regionCase) int {
	border := 0
	for y := -1; y <= g.high; y++ {
		for x := -1; x <= g.wide; x++ {
			if g.has(x, y) != g.has(x+1, y) {
				border++
			}
			if g.has(x, y) != g.has(x, y+1) {
				border++
			}
		}
	}
	return border
}

func plainGrown(g regionCase) []int {
	grown := []int{}
	for i := range g.wide * g.high {
		x, y := i%g.wide, i/g.wide
		if g.has(x, y) || g.has(x-1, y) || g.has(x+1, y) || g.has(x, y-1) || g.has(x, y+1) {
			grown = append(grown, i)
		}
	}
	return grown
}

func plainMarks(g regionCase) impl.Field {
	cells := []int{}
	for i := range g.wide * g.high {
		cells = append(cells, either(g.has(i%g.wide, i/g.wide), 1, 0))
	}
	return fieldOf(g.wide, g.high, cells...)
}

func sameLists[E comparable](a [][]E, b [][]E) bool {
	return slices.EqualFunc(a, b, func(p []E, q []E) bool { return slices.Equal(p, q) })
}

func expectRegion(t *testing.T, what string, got []int, ok bool, want []int) {
	t.Helper()
	if !ok || !slices.Equal(got, want) {
		t.Errorf("%s = %v, %v, not %v", what, got, ok, want)
	}
}

func expectLists[E comparable](t *testing.T, what string, got [][]E, ok bool, want [][]E) {
	t.Helper()
	if !ok || !sameLists(got, want) {
		t.Errorf("%s = %v, %v, not %v", what, got, ok, want)
	}
}

func expectNumber(t *testing.T, what string, got int, ok bool, want int) {
	t.Helper()
	if !ok || got != want {
		t.Errorf("%s = %d, %v, not %d", what, got, ok, want)
	}
}

func expectLoops(t *testing.T, g regionCase, want [][]impl.Point) {
	t.Helper()
	loops, ok := impl.Outlines(g.wide, g.high, g.region)
	expectLists(t, "Outlines of "+g.String(), loops, ok, want)
}

// checkRegion holds every function of a region against the tests' own, and the loops against
// all that is promised of them.
func checkRegion(t *testing.T, g regionCase) {
	t.Helper()
	of := " of " + g.String()
	parts, ok := impl.RegionParts(g.wide, g.high, g.region)
	expectLists(t, "RegionParts"+of, parts, ok, plainParts(g))
	expectLoops(t, g, plainLoops(g))
	holes, ok := impl.HoleCount(g.wide, g.high, g.region)
	expectNumber(t, "HoleCount"+of, holes, ok, plainHoles(g))
	border, ok := impl.RegionBorder(g.wide, g.high, g.region)
	expectNumber(t, "RegionBorder"+of, border, ok, plainBorder(g))
	grown, ok := impl.GrowRegion(g.wide, g.high, g.region)
	expectRegion(t, "GrowRegion"+of, grown, ok, plainGrown(g))
	f, ok := impl.RegionField(g.wide, g.high, g.region)
	expectField(t, "RegionField"+of, f, ok, plainMarks(g))
	above, ok := impl.RegionAbove(f, 0)
	expectRegion(t, "RegionAbove the field"+of, above, ok, g.region)
	checkLoops(t, g)
}

func checkLoops(t *testing.T, g regionCase) {
	t.Helper()
	loops, _ := impl.Outlines(g.wide, g.high, g.region)
	parts, _ := impl.RegionParts(g.wide, g.high, g.region)
	holes, _ := impl.HoleCount(g.wide, g.high, g.region)
	border, _ := impl.RegionBorder(g.wide, g.high, g.region)
	areas, lengths, outer, inner := 0, 0, 0, 0
	for i, loop := range loops {
		area, ok := impl.LoopArea(loop)
		expectNumber(t, "LoopArea", area, ok, plainLoopArea(loop))
		areas += area
		outer += max(cmp.Compare(area, 0), 0)
		inner += max(cmp.Compare(0, area), 0)
		// No two loops have the same first Point: a corner where two of them meet is behind a
		// smaller Point of one of them.
		if i > 0 && comparePoints(loops[i-1][0], loop[0]) >= 0 {
			t.Errorf("%v: %v is not in front of %v", g, loops[i-1], loop)
		}
		for j, p := range loop {
			q := loop[(j+1)%len(loop)]
			r := loop[(j+2)%len(loop)]
			lengths += absolute(p.X-q.X) + absolute(p.Y-q.Y)
			if p.X == r.X || p.Y == r.Y {
				t.Errorf("%v: %v does not turn in %v", g, loop, q)
			}
			if j > 0 && comparePoints(loop[0], p) >= 0 {
				t.Errorf("%v: %v does not begin with its first Point", g, loop)
			}
		}
	}
	if areas != len(g.region) || lengths != border || outer != len(parts) || inner != holes {
		t.Errorf("%v: areas of %d, lengths of %d, %d outer loops and %d inner ones", g, areas, lengths, outer, inner)
	}
}

// everyRegion calls a function with all regions of a grid.
func everyRegion(wide int, high int, call func(g regionCase)) {
	for cells := range 1 << (wide * high) {
		g := regionCase{wide, high, []int{}}
		for i := range wide * high {
			if cells>>i&1 == 1 {
				g.region = append(g.region, i)
			}
		}
		call(g)
	}
}

// someRegion has a share of the cells of a grid, of a hundred.
func someRegion(random *rand.Rand, wide int, high int, share int) regionCase {
	g := regionCase{wide, high, []int{}}
	for i := range wide * high {
		if random.IntN(100) < share {
			g.region = append(g.region, i)
		}
	}
	return g
}

func TestAllRegionsOfSmallGrids(t *testing.T) {
	everyShape(func(wide int, high int) {
		if wide*high <= 10 || wide == 4 && high == 3 {
			everyRegion(wide, high, func(g regionCase) { checkRegion(t, g) })
		}
	})
}

func TestLoopsOfAllRegionsOfAGrid(t *testing.T) {
	everyRegion(4, 4, func(g regionCase) {
		expectLoops(t, g, plainLoops(g))
		checkLoops(t, g)
	})
}

func TestRegionsOfEveryShape(t *testing.T) {
	random := rand.New(rand.NewPCG(8, 1))
	everyShape(func(wide int, high int) {
		for _, share := range []int{0, 10, 30, 45, 55, 65, 75, 85, 95, 100} {
			for range 4 {
				checkRegion(t, someRegion(random, wide, high, share))
			}
		}
	})
	for range 500 {
		checkRegion(t, someRegion(random, 8, 8, 50+random.IntN(40)))
		checkRegion(t, someRegion(random, 5, 5, 50+random.IntN(40)))
	}
}

// TestRingsInRings has parts inside of holes of parts inside of holes, with a gap in each ring.
func TestRingsInRings(t *testing.T) {
	rings := drawn("########/#......#/#.####.#/#.#..#.#/#.#..#.#/#.####.#/#......#/########")
	checkRegion(t, rings)
	expectLoops(t, rings, [][]impl.Point{
		loopOf(0, 0, 8, 0, 8, 8, 0, 8), loopOf(1, 1, 1, 7, 7, 7, 7, 1), loopOf(2, 2, 6, 2, 6, 6, 2, 6), loopOf(3, 3, 3, 5, 5, 5, 5, 3),
	})
	for i := range 64 {
		for j := range i + 1 {
			g := regionCase{8, 8, slices.Clone(rings.region)}
			for _, flipped := range []int{i, j} {
				if at, found := slices.BinarySearch(g.region, flipped); found {
					g.region = slices.Delete(g.region, at, at+1)
				} else {
					g.region = slices.Insert(g.region, at, flipped)
				}
			}
			checkRegion(t, g)
		}
	}
}

func TestOutlinesByHand(t *testing.T) {
	for _, c := range []struct {
		drawing string
		holes   int
		loops   [][]impl.Point
	}{
		{"#", 0, [][]impl.Point{loopOf(0, 0, 1, 0, 1, 1, 0, 1)}},
		{".../.#./...", 0, [][]impl.Point{loopOf(1, 1, 2, 1, 2, 2, 1, 2)}},
		{"......../......../......../......../......../......../......../.......#", 0, [][]impl.Point{loopOf(7, 7, 8, 7, 8, 8, 7, 8)}},
		{"####/####/####", 0, [][]impl.Point{loopOf(0, 0, 4, 0, 4, 3, 0, 3)}},
		{"########/########/########/########/########/########/########/########", 0, [][]impl.Point{loopOf(0, 0, 8, 0, 8, 8, 0, 8)}},
		{"..../####/....", 0, [][]impl.Point{loopOf(0, 1, 4, 1, 4, 2, 0, 2)}},
		{".#../.#../.#..", 0, [][]impl.Point{loopOf(1, 0, 2, 0, 2, 3, 1, 3)}},
		{"#.#", 0, [][]impl.Point{loopOf(0, 0, 1, 0, 1, 1, 0, 1), loopOf(2, 0, 3, 0, 3, 1, 2, 1)}},
		{".##/##.", 0, [][]impl.Point{loopOf(1, 0, 3, 0, 3, 1, 2, 1, 2, 2, 0, 2, 0, 1, 1, 1)}},
		{".#./###/.#.", 0, [][]impl.Point{loopOf(1, 0, 2, 0, 2, 1, 3, 1, 3, 2, 2, 2, 2, 3, 1, 3, 1, 2, 0, 2, 0, 1, 1, 1)}},
		{"###/#.#/#.#", 0, [][]impl.Point{loopOf(0, 0, 3, 0, 3, 3, 2, 3, 2, 1, 1, 1, 1, 3, 0, 3)}},
		// Cells that touch at a corner are two loops, whichever corner it is.
		{"#./.#", 0, [][]impl.Point{loopOf(0, 0, 1, 0, 1, 1, 0, 1), loopOf(1, 1, 2, 1, 2, 2, 1, 2)}},
		{".#/#.", 0, [][]impl.Point{loopOf(1, 0, 2, 0, 2, 1, 1, 1), loopOf(0, 1, 1, 1, 1, 2, 0, 2)}},
		{".#./#.#/.#.", 0, [][]impl.Point{loopOf(1, 0, 2, 0, 2, 1, 1, 1), loopOf(0, 1, 1, 1, 1, 2, 0, 2), loopOf(2, 1, 3, 1, 3, 2, 2, 2), loopOf(1, 2, 2, 2, 2, 3, 1, 3)}},
		// Two parts that touch at two corners enclose no hole.
		{"###/#.#/.#.", 0, [][]impl.Point{loopOf(0, 0, 3, 0, 3, 2, 2, 2, 2, 1, 1, 1, 1, 2, 0, 2), loopOf(1, 2, 2, 2, 2, 3, 1, 3)}},
		// A part that touches itself at a corner is one loop, which is there twice.
		{"##./#.#/###", 0, [][]impl.Point{loopOf(0, 0, 2, 0, 2, 1, 1, 1, 1, 2, 2, 2, 2, 1, 3, 1, 3, 3, 0, 3)}},
		{".##/#.#/###", 0, [][]impl.Point{loopOf(1, 0, 3, 0, 3, 3, 0, 3, 0, 1, 1, 1, 1, 2, 2, 2, 2, 1, 1, 1)}},
		{"###/#.#/.##", 0, [][]impl.Point{loopOf(0, 0, 3, 0, 3, 3, 1, 3, 1, 2, 2, 2, 2, 1, 1, 1, 1, 2, 0, 2)}},
		{"###/#.#/##.", 0, [][]impl.Point{loopOf(0, 0, 3, 0, 3, 2, 2, 2, 2, 1, 1, 1, 1, 2, 2, 2, 2, 3, 0, 3)}},
		{"###/#.#/###", 1, [][]impl.Point{loopOf(0, 0, 3, 0, 3, 3, 0, 3), loopOf(1, 1, 1, 2, 2, 2, 2, 1)}},
		{"###.../#.####/###..#/..####", 2, [][]impl.Point{
			loopOf(0, 0, 3, 0, 3, 1, 6, 1, 6, 4, 2, 4, 2, 3, 0, 3), loopOf(1, 1, 1, 2, 2, 2, 2, 1), loopOf(3, 2, 3, 3, 5, 3, 5, 2)}},
		{"#####/#.#.#/#####", 2, [][]impl.Point{loopOf(0, 0, 5, 0, 5, 3, 0, 3), loopOf(1, 1, 1, 2, 2, 2, 2, 1), loopOf(3, 1, 3, 2, 4, 2, 4, 1)}},
		// Holes that touch at a corner are one loop.
		{"####/#.##/##.#/####", 1, [][]impl.Point{loopOf(0, 0, 4, 0, 4, 4, 0, 4), loopOf(1, 1, 1, 2, 2, 2, 2, 3, 3, 3, 3, 2, 2, 2, 2, 1)}},
		{"####/##.#/#.##/####", 1, [][]impl.Point{loopOf(0, 0, 4, 0, 4, 4, 0, 4), loopOf(2, 1, 2, 2, 1, 2, 1, 3, 2, 3, 2, 2, 3, 2, 3, 1)}},
		{"#####/#...#/#.#.#/#...#/#####", 1, [][]impl.Point{loopOf(0, 0, 5, 0, 5, 5, 0, 5), loopOf(1, 1, 1, 4, 4, 4, 4, 1), loopOf(2, 2, 3, 2, 3, 3, 2, 3)}},
		// The part in the hole begins at a corner of the hole.
		{"#####/##..#/#.#.#/#...#/#####", 1, [][]impl.Point{loopOf(0, 0, 5, 0, 5, 5, 0, 5), loopOf(2, 1, 2, 2, 1, 2, 1, 4, 4, 4, 4, 1), loopOf(2, 2, 3, 2, 3, 3, 2, 3)}},
		{"#####/#..##/#.#.#/#...#/#####", 1, [][]impl.Point{loopOf(0, 0, 5, 0, 5, 5, 0, 5), loopOf(1, 1, 1, 4, 4, 4, 4, 2, 3, 2, 3, 1), loopOf(2, 2, 3, 2, 3, 3, 2, 3)}},
	} {
		g := drawn(c.drawing)
		if g.String() != c.drawing {
			t.Errorf("%s is drawn as %v", c.drawing, g)
		}
		expectLoops(t, g, c.loops)
		holes, ok := impl.HoleCount(g.wide, g.high, g.region)
		expectNumber(t, "HoleCount of "+c.drawing, holes, ok, c.holes)
		checkRegion(t, g)
	}
}

func TestOutlinesOfACheckerboard(t *testing.T) {
	for _, first := range []int{0, 1} {
		g := regionCase{8, 8, []int{}}
		want := [][]impl.Point{}
		parts := [][]int{}
		for i := range 64 {
			if (i%8+i/8)%2 == first {
				x, y := i%8, i/8
				g.region = append(g.region, i)
				parts = append(parts, []int{i})
				want = append(want, loopOf(x, y, x+1, y, x+1, y+1, x, y+1))
			}
		}
		expectLoops(t, g, want)
		got, ok := impl.RegionParts(8, 8, g.region)
		expectLists(t, "RegionParts of a checkerboard", got, ok, parts)
		checkRegion(t, g)
	}
}

// TestCellsAreNotConnectedAroundTheGrid has neighbors in the list that are ends of two rows.
func TestCellsAreNotConnectedAroundTheGrid(t *testing.T) {
	g := drawn("..#/#../..#")
	parts, ok := impl.RegionParts(g.wide, g.high, g.region)
	expectLists(t, "RegionParts", parts, ok, [][]int{{2}, {3}, {8}})
	grown, ok := impl.GrowRegion(3, 3, []int{2})
	expectRegion(t, "GrowRegion", grown, ok, []int{1, 2, 5})
	grown, ok = impl.GrowRegion(3, 3, []int{3})
	expectRegion(t, "GrowRegion", grown, ok, []int{0, 3, 4, 6})
	border, ok := impl.RegionBorder(g.wide, g.high, g.region)
	expectNumber(t, "RegionBorder", border, ok, 12)
	checkRegion(t, g)
}

func TestPartsByHand(t *testing.T) {
	for _, c := range []struct {
		drawing string
		parts   [][]int
	}{
		{"#", [][]int{{0}}}, {"##", [][]int{{0, 1}}}, {"#.#", [][]int{{0}, {2}}}, {"#./.#", [][]int{{0}, {3}}}, {".#/#.", [][]int{{1}, {2}}}, {"##/.#", [][]int{{0, 1, 3}}},
		{"#.#/#.#/###", [][]int{{0, 2, 3, 5, 6, 7, 8}}}, {"#.#/###/#.#", [][]int{{0, 2, 3, 4, 5, 6, 8}}}, {"#.#/#.#/#.#", [][]int{{0, 3, 6}, {2, 5, 8}}},
		{"..#/#.#/#.#", [][]int{{2, 5, 8}, {3, 6}}}, {"..##/.#.#/.#.#/##..", [][]int{{2, 3, 7, 11}, {5, 9, 12, 13}}},
		{"#####/#...#/#.#.#/#...#/#####", [][]int{{0, 1, 2, 3, 4, 5, 9, 10, 14, 15, 19, 20, 21, 22, 23, 24}, {12}}},
		{"#####/#..##/#.#.#/#...#/#####", [][]int{{0, 1, 2, 3, 4, 5, 8, 9, 10, 14, 15, 19, 20, 21, 22, 23, 24}, {12}}},
		{"####./#...#/#.#.#/#...#/.####", [][]int{{0, 1, 2, 3, 5, 10, 15}, {9, 14, 19, 21, 22, 23, 24}, {12}}},
		{"#####/....#/###.#/#...#/#####", [][]int{{0, 1, 2, 3, 4, 9, 10, 11, 12, 14, 15, 19, 20, 21, 22, 23, 24}}},
	} {
		g := drawn(c.drawing)
		parts, ok := impl.RegionParts(g.wide, g.high, g.region)
		expectLists(t, "RegionParts of "+c.drawing, parts, ok, c.parts)
		checkRegion(t, g)
	}
}

func TestEveryPartHasOneOuterLoop(t *testing.T) {
	random := rand.New(rand.NewPCG(8, 2))
	for range 300 {
		g := someRegion(random, random.IntN(5)+4, random.IntN(5)+4, 40+random.IntN(50))
		parts, _ := impl.RegionParts(g.wide, g.high, g.region)
		loops := [][]impl.Point{}
		for _, part := range parts {
			own := regionCase{g.wide, g.high, part}
			checkLoops(t, own)
			again, ok := impl.RegionParts(g.wide, g.high, part)
			expectLists(t, "RegionParts of a part", again, ok, [][]int{part})
			list, _ := impl.Outlines(g.wide, g.high, part)
			loops = append(loops, list...)
		}
		// The loops of a region are those of its parts, since these have no side in common.
		slices.SortFunc(loops, func(a []impl.Point, b []impl.Point) int { return comparePoints(a[0], b[0]) })
		expectLoops(t, g, loops)
	}
}

func TestRegionsAboveByHand(t *testing.T) {
	f := fieldOf(3, 2, 5, gone, -5, 4, 0, 9000)
	for _, c := range []struct {
		limit int
		want  []int
	}{
		{math.MinInt, []int{0, 2, 3, 4, 5}}, {-10000, []int{0, 2, 3, 4, 5}}, {gone, []int{0, 2, 3, 4, 5}}, {-9000, []int{0, 2, 3, 4, 5}}, {-6, []int{0, 2, 3, 4, 5}}, {-5, []int{0, 3, 4, 5}},
		{-1, []int{0, 3, 4, 5}}, {0, []int{0, 3, 5}}, {3, []int{0, 3, 5}}, {4, []int{0, 5}}, {5, []int{5}}, {8999, []int{5}}, {9000, []int{}}, {9001, []int{}}, {math.MaxInt, []int{}},
	} {
		region, ok := impl.RegionAbove(f, c.limit)
		expectRegion(t, "RegionAbove "+strconv.Itoa(c.limit), region, ok, c.want)
	}
}

func TestRegionsAboveEveryValue(t *testing.T) {
	random := rand.New(rand.NewPCG(8, 3))
	fields := []impl.Field{fieldOf(1, 1, gone), fieldOf(8, 8, filled(64, gone)...), fieldOf(8, 8, filled(64, 9000)...), fieldOf(8, 8, filled(64, -9000)...)}
	for _, w := range writtenFields() {
		fields = append(fields, w.field)
	}
	everyShape(func(wide int, high int) {
		for _, share := range []int{0, 30} {
			fields = append(fields, sparseField(random, wide, high, 3, share), sparseField(random, wide, high, 9000, share))
		}
	})
	for _, f := range fields {
		for _, at := range append(append(farNumbers(), f.Cells...), 0, gone, 9000, -9000) {
			for _, limit := range []int{at, at - 1, at + 1} {
				region, ok := impl.RegionAbove(f, limit)
				expectRegion(t, "RegionAbove "+strconv.Itoa(limit), region, ok, plainAbove(f, limit))
			}
		}
	}
}

func TestRegionsAboveInvalidFields(t *testing.T) {
	for name, bad := range invalidFields() {
		for _, limit := range []int{math.MinInt, -10000, gone, -9000, 0, 5, 9000, math.MaxInt} {
			if region, ok := impl.RegionAbove(bad, limit); ok || len(region) != 0 {
				t.Errorf("RegionAbove of %s = %v, %v", name, region, ok)
			}
		}
	}
}

func expectArea(t *testing.T, loop []impl.Point, want int) {
	t.Helper()
	area, ok := impl.LoopArea(loop)
	expectNumber(t, "LoopArea", area, ok, want)
	if area != plainLoopArea(loop) {
		t.Errorf("LoopArea(%v) = %d, not %d", loop, area, plainLoopArea(loop))
	}
}

func expectNoArea(t *testing.T, what string, loop []impl.Point) {
	t.Helper()
	if area, ok := impl.LoopArea(loop); ok || area != 0 {
		t.Errorf("LoopArea of %s = %d, %v", what, area, ok)
	}
}

func TestAreasByHand(t *testing.T) {
	for _, c := range []struct {
		loop []impl.Point
		area int
	}{
		{loopOf(0, 0, 1, 0, 1, 1, 0, 1), 1}, {loopOf(0, 0, 0, 1, 1, 1, 1, 0), -1}, {loopOf(0, 0, 8, 0, 8, 8, 0, 8), 64}, {loopOf(8, 8, 8, 0, 0, 0, 0, 8), -64},
		{loopOf(3, 2, 7, 2, 7, 5, 3, 5), 12}, {loopOf(7, 7, 8, 7, 8, 8, 7, 8), 1}, {loopOf(0, 0, 2, 0, 2, 1, 1, 1, 1, 2, 0, 2), 3},
		{loopOf(0, 0, 1, 0, 2, 0, 2, 1, 0, 1), 2}, {loopOf(0, 0, 1, 0, 1, 1, 0, 1, 0, 0, 1, 0, 1, 1, 0, 1), 2},
		{loopOf(0, 0, 1, 0, 0, 0, 1, 0), 0}, {loopOf(5, 5, 5, 6, 5, 7, 5, 3), 0}, {loopOf(0, 0, 2, 0, 2, 2, 1, 2, 1, 0, 0, 0, 0, 3, 0, 1), 2},
		{loopOf(1, 0, 2, 0, 2, 1, 0, 1, 0, 2, 1, 2), 0}, {loopOf(1, 0, 1, 3, 2, 3, 2, 1, 0, 1, 0, 0), -1},
		{loopOf(1, 0, 3, 0, 3, 3, 0, 3, 0, 1, 1, 1, 1, 2, 2, 2, 2, 1, 1, 1), 7}, {loopOf(1, 1, 1, 2, 2, 2, 2, 3, 3, 3, 3, 2, 2, 2, 2, 1), -2},
	} {
		expectArea(t, c.loop, c.area)
		for i := range c.loop {
			expectArea(t, slices.Concat(c.loop[i:], c.loop[:i]), c.area)
		}
		reversed := slices.Clone(c.loop)
		slices.Reverse(reversed)
		expectArea(t, reversed, -c.area)
	}
}

// rounds goes around the greatest grid with a number of Points, of which up to 3 do not turn.
func rounds(size int) []impl.Point {
	loop := loopOf(0, 0, 1, 0, 2, 0, 3, 0)[:1+size%4]
	for len(loop) < size {
		loop = append(loop, loopOf(8, 0, 8, 8, 0, 8, 0, 0)...)
	}
	return loop[:size]
}

func TestLoopsOfEveryNumberOfPoints(t *testing.T) {
	for size := range 301 {
		loop := rounds(size)
		if len(loop) != size {
			t.Fatal(loop, "has not the size", size)
		}
		if size < 4 || size > 100 {
			expectNoArea(t, strconv.Itoa(size)+" Points", loop)
			continue
		}
		expectArea(t, loop, 64*(size/4))
	}
	expectNoArea(t, "no list", nil)
	expectNoArea(t, "three Points of a cell", loopOf(0, 0, 1, 0, 1, 1))
	expectNoArea(t, "three Points of a row", loopOf(0, 0, 1, 0, 2, 0))
	expectNoArea(t, "two Points", loopOf(0, 0, 1, 0))
	expectNoArea(t, "one Point", loopOf(0, 0))
	expectNoArea(t, "very many Points", rounds(1<<16+4))
}

func isLoop(loop []impl.Point) bool {
	for i, p := range loop {
		q := loop[(i+1)%len(loop)]
		if min(p.X, p.Y) < 0 || max(p.X, p.Y) > 8 || p.X != q.X && p.Y != q.Y || p == q {
			return false
		}
	}
	return len(loop) >= 4 && len(loop) <= 100
}

// listsOf calls a function with all lists of some of the Points.
func listsOf(points []impl.Point, size int, call func(list []impl.Point)) {
	list := make([]impl.Point, size)
	var place func(at int)
	place = func(at int) {
		if at == size {
			call(list)
			return
		}
		for _, p := range points {
			list[at] = p
			place(at + 1)
		}
	}
	place(0)
}

func squareOf(numbers ...int) []impl.Point {
	points := []impl.Point{}
	for _, x := range numbers {
		for _, y := range numbers {
			points = append(points, impl.Point{X: x, Y: y})
		}
	}
	return points
}

func TestEveryShortListOfPoints(t *testing.T) {
	check := func(list []impl.Point) {
		if isLoop(list) {
			expectArea(t, list, plainLoopArea(list))
		} else {
			expectNoArea(t, "no loop", list)
		}
	}
	for size := range 4 {
		listsOf(squareOf(0, 1, 2), size, check)
	}
	for _, numbers := range [][]int{{-1, 0, 8, 9}, {0, 1, 2}, {0, 3, 8}, {math.MinInt, 0, 1, math.MaxInt}} {
		listsOf(squareOf(numbers...), 4, check)
	}
	for size := 5; size <= 7; size++ {
		listsOf(squareOf(3, 5), size, check)
	}
}

func TestPointsAtTheLimits(t *testing.T) {
	for _, size := range []int{4, 6, 99, 100} {
		for at := range size {
			for _, bad := range append(farNumbers(), -1, 9, -2, 10, 16, gone) {
				for _, point := range []impl.Point{{X: bad, Y: 0}, {X: 0, Y: bad}, {X: bad, Y: 8}, {X: 8, Y: bad}, {X: bad, Y: bad}, {X: bad, Y: -bad}} {
					loop := rounds(size)
					loop[at] = point
					expectNoArea(t, "a Point outside", loop)
				}
			}
		}
	}
	for _, bad := range append(farNumbers(), -1, 9, -2, 10, gone) {
		expectNoArea(t, "a loop outside", loopOf(bad, bad, bad+1, bad, bad+1, bad+1, bad, bad+1))
		expectNoArea(t, "a loop partly outside to the side", loopOf(4, 0, bad, 0, bad, 1, 4, 1))
		expectNoArea(t, "a loop partly outside above or below", loopOf(0, 4, 1, 4, 1, bad, 0, bad))
	}
}

func TestPointsThatDoNotGoOn(t *testing.T) {
	for _, size := range []int{4, 5, 8, 50, 98, 99} {
		loop := rounds(size)
		for at, point := range loop {
			expectNoArea(t, "a Point twice", slices.Insert(slices.Clone(loop), at, point))
			slanted := impl.Point{X: 4 + at%2, Y: 5}
			expectNoArea(t, "a Point off the line", slices.Insert(slices.Clone(loop), at, slanted))
			slantedFirst := slices.Clone(loop)
			slantedFirst[at] = impl.Point{X: 4, Y: 4}
			expectNoArea(t, "a Point in the middle", slantedFirst)
		}
		expectNoArea(t, "the first Point again at the end", append(slices.Clone(loop), loop[0]))
	}
	expectNoArea(t, "a loop that is not closed", loopOf(0, 0, 1, 0, 1, 1, 2, 1))
	expectNoArea(t, "a loop with a last slanted step", loopOf(0, 0, 2, 0, 2, 1, 1, 1))
	expectNoArea(t, "a loop with a first slanted step", loopOf(0, 0, 1, 1, 1, 0, 2, 0))
	expectNoArea(t, "slanted steps alone", loopOf(1, 0, 2, 1, 1, 2, 0, 1))
	expectNoArea(t, "one Point alone", loopOf(1, 1, 1, 1, 1, 1, 1, 1))
}

func TestAreasOfRandomLoops(t *testing.T) {
	random := rand.New(rand.NewPCG(8, 4))
	found := 0
	for found < 3000 {
		loop := loopOf(random.IntN(9), random.IntN(9))
		for range random.IntN(98) + 3 {
			next := loop[len(loop)-1]
			if random.IntN(2) == 0 {
				next.X = random.IntN(9)
			} else {
				next.Y = random.IntN(9)
			}
			loop = append(loop, next)
		}
		loop = slices.Compact(loop)
		loop[len(loop)-1].X = loop[0].X
		if !isLoop(loop) {
			expectNoArea(t, "no loop", loop)
			continue
		}
		found++
		expectArea(t, loop, plainLoopArea(loop))
		turned := []impl.Point{}
		for _, p := range loop {
			turned = append(turned, impl.Point{X: p.Y, Y: p.X})
		}
		expectArea(t, turned, -plainLoopArea(loop))
	}
}

func TestGrowRegion(t *testing.T) {
	for _, c := range [][2]string{
		{"#", "#"}, {"#..", "##."}, {".#.", "###"}, {"..#", ".##"}, {"#/./.", "#/#/."}, {"././#", "./#/#"},
		{".../.#./...", ".#./###/.#."}, {"#../.../...", "##./#../..."}, {"..#/.../...", ".##/..#/..."}, {".../.../#..", ".../#../##."}, {".../.../..#", ".../..#/.##"},
		{".#./.../...", "###/.#./..."}, {".../#../...", "#../##./#.."}, {".../..#/...", "..#/.##/..#"}, {".../.../.#.", ".../.#./###"},
		{"#.#/.../#.#", "###/#.#/###"}, {"###/#.#/###", "###/###/###"}, {"####/#..#/####", "####/####/####"}, {"....#/...../#....", "...##/#...#/##..."},
		{"#######./......../......../......../......../......../......../.......#", "########/#######./......../......../......../......../.......#/......##"},
	} {
		g := drawn(c[0])
		grown, ok := impl.GrowRegion(g.wide, g.high, g.region)
		expectRegion(t, "GrowRegion of "+c[0], grown, ok, drawn(c[1]).region)
		checkRegion(t, g)
	}
}

func TestFieldsOfRegions(t *testing.T) {
	f, ok := impl.RegionField(4, 2, []int{0, 2, 7})
	expectField(t, "RegionField", f, ok, fieldOf(4, 2, 1, 0, 1, 0, 0, 0, 0, 1))
	f, ok = impl.RegionField(2, 4, []int{0, 2, 7})
	expectField(t, "RegionField", f, ok, fieldOf(2, 4, 1, 0, 1, 0, 0, 0, 0, 1))
	f, ok = impl.RegionField(1, 1, []int{0})
	expectField(t, "RegionField", f, ok, fieldOf(1, 1, 1))
}

func TestEmptyRegions(t *testing.T) {
	noRegion := []int{9, -1}
	everyShape(func(wide int, high int) {
		for _, empty := range [][]int{nil, {}, noRegion[:0]} {
			g := regionCase{wide, high, empty}
			checkRegion(t, g)
			of := " of " + g.String()
			parts, ok := impl.RegionParts(wide, high, empty)
			expectLists(t, "RegionParts"+of, parts, ok, [][]int{})
			expectLoops(t, g, [][]impl.Point{})
			holes, ok := impl.HoleCount(wide, high, empty)
			expectNumber(t, "HoleCount"+of, holes, ok, 0)
			border, ok := impl.RegionBorder(wide, high, empty)
			expectNumber(t, "RegionBorder"+of, border, ok, 0)
			grown, ok := impl.GrowRegion(wide, high, empty)
			expectRegion(t, "GrowRegion"+of, grown, ok, []int{})
			f, ok := impl.RegionField(wide, high, empty)
			expectField(t, "RegionField"+of, f, ok, fieldOf(wide, high, filled(wide*high, 0)...))
		}
	})
}

// expectNoRegion fails unless every function of a region rejects its arguments.
func expectNoRegion(t *testing.T, wide int, high int, region []int) {
	t.Helper()
	of := " of " + strconv.Itoa(wide) + " by " + strconv.Itoa(high)
	if parts, ok := impl.RegionParts(wide, high, region); ok || len(parts) != 0 {
		t.Errorf("RegionParts%s of %v = %v, %v", of, region, parts, ok)
	}
	if loops, ok := impl.Outlines(wide, high, region); ok || len(loops) != 0 {
		t.Errorf("Outlines%s of %v = %v, %v", of, region, loops, ok)
	}
	if holes, ok := impl.HoleCount(wide, high, region); ok || holes != 0 {
		t.Errorf("HoleCount%s of %v = %d, %v", of, region, holes, ok)
	}
	if border, ok := impl.RegionBorder(wide, high, region); ok || border != 0 {
		t.Errorf("RegionBorder%s of %v = %d, %v", of, region, border, ok)
	}
	if grown, ok := impl.GrowRegion(wide, high, region); ok || len(grown) != 0 {
		t.Errorf("GrowRegion%s of %v = %v, %v", of, region, grown, ok)
	}
	f, ok := impl.RegionField(wide, high, region)
	expectNoField(t, "RegionField"+of, f, ok)
}

func TestRegionsOfNoShape(t *testing.T) {
	for wide := -9; wide <= 17; wide++ {
		for high := -9; high <= 17; high++ {
			for _, region := range [][]int{{}, {0}, {0, 1}} {
				is := wide >= 1 && wide <= 8 && high >= 1 && high <= 8
				if is && len(region) <= wide*high {
					checkRegion(t, regionCase{wide, high, region})
				} else {
					expectNoRegion(t, wide, high, region)
				}
			}
		}
	}
	for _, bad := range badSides() {
		for _, side := range []int{1, 2, 8, 0, -1, 9, bad} {
			for _, region := range [][]int{nil, {}, {0}, {0, 1}, {1}, {63}} {
				expectNoRegion(t, bad, side, region)
				expectNoRegion(t, side, bad, region)
			}
		}
	}
}

func TestListsThatAreNoRegions(t *testing.T) {
	everyShape(func(wide int, high int) {
		size := wide * high
		all := regionCase{wide, high, []int{}}
		for i := range size {
			all.region = append(all.region, i)
		}
		for _, bad := range append(farNumbers(), -1, size, size+1, -size, gone, 64+wide) {
			expectNoRegion(t, wide, high, []int{bad})
			expectNoRegion(t, wide, high, []int{0, bad})
			expectNoRegion(t, wide, high, []int{bad, 0})
			expectNoRegion(t, wide, high, []int{bad, size - 1})
			expectNoRegion(t, wide, high, []int{bad - 1, bad})
			expectNoRegion(t, wide, high, append(slices.Clone(all.region), bad))
			expectNoRegion(t, wide, high, append([]int{bad}, all.region...))
		}
		for at := range size {
			expectNoRegion(t, wide, high, []int{at, at})
			expectNoRegion(t, wide, high, slices.Insert(slices.Clone(all.region), at, at))
			if at > 0 {
				expectNoRegion(t, wide, high, []int{at, at - 1})
				expectNoRegion(t, wide, high, []int{at, 0})
				swapped := slices.Clone(all.region)
				swapped[at], swapped[at-1] = swapped[at-1], swapped[at]
				expectNoRegion(t, wide, high, swapped)
			}
			checkRegion(t, regionCase{wide, high, []int{at}})
		}
		if size <= 16 {
			checkRegion(t, all)
		}
	})
	expectNoRegion(t, 8, 8, make([]int, 100000))
}

func TestEveryShortListAsARegion(t *testing.T) {
	numbers := []int{-1, 0, 1, 2, 3, 4, 5}
	for _, a := range numbers {
		for _, b := range numbers {
			for _, c := range numbers {
				for _, list := range [][]int{{a, b}, {a, b, c}} {
					is := list[0] >= 0 && list[len(list)-1] < 4
					for i := 1; i < len(list); i++ {
						is = is && list[i-1] < list[i]
					}
					for _, shape := range [][2]int{{2, 2}, {4, 1}, {1, 4}} {
						if is {
							checkRegion(t, regionCase{shape[0], shape[1], list})
						} else {
							expectNoRegion(t, shape[0], shape[1], list)
						}
					}
				}
			}
		}
	}
}

// checkListsAndMemory fails if lists of a result lie in the memory of one another, in that of
// the lists of a second result, or in that of the argument.
func checkListsAndMemory[E comparable](t *testing.T, name string, lists [][]E, second [][]E, argument []int) {
	t.Helper()
	if !sameLists(lists, second) {
		t.Errorf("%s = %v and then %v", name, lists, second)
	}
	if shareElements(lists, second) {
		t.Errorf("two results of %s share memory", name)
	}
	for i, list := range lists {
		for _, other := range slices.Concat(lists[:i], second) {
			if shareElements(list, other) {
				t.Errorf("two lists of %s share memory", name)
			}
		}
		if numbers, ok := any(list).([]int); ok && shareElements(numbers, argument) {
			t.Errorf("%s shares memory with its argument", name)
		}
	}
	for i, list := range second {
		clear(list[:cap(list)])
		second[i] = nil
	}
}

// regionResults are those of all functions of a region that return lists.
func regionResults(g regionCase) ([][]int, [][]impl.Point, [][]int) {
	parts, _ := impl.RegionParts(g.wide, g.high, g.region)
	loops, _ := impl.Outlines(g.wide, g.high, g.region)
	grown, _ := impl.GrowRegion(g.wide, g.high, g.region)
	f, _ := impl.RegionField(g.wide, g.high, g.region)
	return parts, loops, [][]int{grown, f.Cells}
}

func TestRegionsAndMemory(t *testing.T) {
	for _, drawing := range []string{
		"#", ".", "###/#.#/###", "#./.#", "#####/#...#/#.#.#/#...#/#####", "####/####", "####./#...#/#.#.#/#...#/.####", "########/########/########/########/########/########/########/########",
	} {
		g := drawn(drawing)
		room := append(slices.Clone(g.region), 1, -5, 12345)
		before := slices.Clone(room)
		g.region = room[:len(g.region)]
		parts, loops, cells := regionResults(g)
		secondParts, secondLoops, secondCells := regionResults(g)
		impl.HoleCount(g.wide, g.high, g.region)
		impl.RegionBorder(g.wide, g.high, g.region)
		checkListsAndMemory(t, "RegionParts", parts, secondParts, room)
		checkListsAndMemory(t, "Outlines", loops, secondLoops, room)
		checkListsAndMemory(t, "GrowRegion and RegionField", cells, secondCells, room)
		if !slices.Equal(room, before) {
			t.Errorf("the region is modified: %v from %v", room, before)
		}
		for i := range room {
			room[i] = 88
		}
		want := drawn(drawing)
		if !sameLists(parts, plainParts(want)) || !sameLists(loops, plainLoops(want)) || !sameLists(cells, [][]int{plainGrown(want), plainMarks(want).Cells}) {
			t.Errorf("the results for %s change with the region", drawing)
		}
	}
}

func TestRegionsAboveAndMemory(t *testing.T) {
	for _, w := range writtenFields() {
		for _, limit := range []int{-9001, 0, 5, 9000} {
			f, room := roomy(w.field)
			before := slices.Clone(room)
			region, _ := impl.RegionAbove(f, limit)
			second, _ := impl.RegionAbove(f, limit)
			checkListsAndMemory(t, "RegionAbove", [][]int{region}, [][]int{second}, room)
			if !slices.Equal(room, before) {
				t.Errorf("the field is modified: %v from %v", room, before)
			}
			for i := range room {
				room[i] = 88
			}
			expectRegion(t, "RegionAbove after the field is changed", region, true, plainAbove(w.field, limit))
		}
	}
}

func TestInvalidArgumentsOfRegionsAreLeft(t *testing.T) {
	for _, list := range [][]int{{3, 0}, {0, 0}, {-1, 2}, {4}, {0, 1, 2, 3, 4}} {
		room := append(slices.Clone(list), 4, 5, 6)
		before := slices.Clone(room)
		expectNoRegion(t, 2, 2, room[:len(list)])
		expectNoRegion(t, 0, 2, room[:len(list)])
		if !slices.Equal(room, before) {
			t.Errorf("the list is modified: %v from %v", room, before)
		}
	}
	for _, f := range invalidFields() {
		f, room := roomy(f)
		before := slices.Clone(room)
		impl.RegionAbove(f, 0)
		if !slices.Equal(room, before) {
			t.Errorf("the field is modified: %v from %v", room, before)
		}
	}
}

func TestAreasLeaveTheLoop(t *testing.T) {
	for _, size := range []int{0, 3, 4, 5, 100, 101} {
		room := append(rounds(size), loopOf(9, 9, -1, 4, 0, 8)...)
		before := slices.Clone(room)
		for range 2 {
			impl.LoopArea(room[:size])
		}
		if !slices.Equal(room, before) {
			t.Errorf("the loop is modified: %v from %v", room, before)
		}
	}
}

func TestRegionsAreNotReadBehindTheirLengths(t *testing.T) {
	region := []int{0, 3, 3, -1}
	for size := range 3 {
		checkRegion(t, regionCase{2, 2, region[:size]})
	}
	expectNoRegion(t, 2, 2, region[:3])
	loop := loopOf(0, 0, 2, 0, 2, 1, 0, 1, 0, 5, 9, 9)
	expectNoArea(t, "a loop completed from behind its length", loop[:3])
	expectArea(t, loop[:4], 2)
	f := fieldOf(2, 2, []int{1, 2, 3, 4, 5}[:3]...)
	if got, ok := impl.RegionAbove(f, 0); ok || len(got) != 0 {
		t.Errorf("RegionAbove of a field completed from behind its length = %v, %v", got, ok)
	}
	got, ok := impl.RegionAbove(fieldOf(2, 1, []int{1, 0, 3, 4}[:2]...), 0)
	expectRegion(t, "RegionAbove", got, ok, []int{0})
}
