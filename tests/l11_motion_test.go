package tests

import (
	"math/big"
	"math/rand/v2"
	"slices"
	"strconv"
	"strings"
	"testing"

	"loop.example/g00889/impl"
)

// grid reads a field from its rows, "1 2/. 3"; a dot is a cell that is Missing.
func grid(s string) impl.Field {
	rows := strings.Split(s, "/")
	f := fieldOf(len(strings.Fields(rows[0])), len(rows))
	for _, word := range strings.Fields(strings.ReplaceAll(s, "/", " ")) {
		cell, err := strconv.Atoi(word)
		if err != nil {
			cell = gone
		}
		f.Cells = append(f.Cells, cell)
	}
	return f
}

func motionOf(x int, y int) impl.Motion { return impl.Motion{X: x, Y: y} }

// everyMotion has all motions in the order of those with the same mean error.
func everyMotion() []impl.Motion {
	motions := []impl.Motion{}
	for size := range 5 {
		for y := -2; y <= 2; y++ {
			for x := -2; x <= 2; x++ {
				if absolute(x)+absolute(y) == size {
					motions = append(motions, motionOf(x, y))
				}
			}
		}
	}
	return motions
}

// badMotions are motions that go too far in one direction or in both.
func badMotions() []impl.Motion {
	motions := []impl.Motion{}
	for _, far := range append(farNumbers(), 3, -3, 4, -4, 5, 8, -8, 9, 256, 258, -254, 1<<16+2, 1<<32-2, gone) {
		for n := -2; n <= 2; n++ {
			motions = append(motions, motionOf(far, n), motionOf(n, far))
		}
		motions = append(motions, motionOf(far, far), motionOf(far, -far))
	}
	return motions
}

// plainMatch goes over the cells of a, as chapter 11 says it.
func plainMatch(a impl.Field, b impl.Field, m impl.Motion) (int, int) {
	sum, count := 0, 0
	for at, value := range a.Cells {
		x, y := at%a.Wide+m.X, at/a.Wide+m.Y
		if value == gone || x < 0 || x >= b.Wide || y < 0 || y >= b.High || b.Cells[y*b.Wide+x] == gone {
			continue
		}
		sum += absolute(value - b.Cells[y*b.Wide+x])
		count++
	}
	return sum, count
}

// plainError is that of a forecast.
func plainError(f impl.Field, g impl.Field) (int, int) {
	sum, count := 0, 0
	for at := range f.Cells {
		if values := valuesAt([]impl.Field{f, g}, at); len(values) == 2 {
			sum += values[1] - values[0]
			count++
		}
	}
	return sum, count
}

func plainQualifies(a impl.Field, b impl.Field, m impl.Motion) bool {
	_, count := plainMatch(a, b, m)
	return count >= 1 && count >= len(a.Cells)-count
}

// plainRanked sorts by quotients that are rounded, but equal ones are rounded in the same way,
// and with counts of at most 64 the others are too far apart to meet.
func plainRanked(a impl.Field, b impl.Field) []impl.Motion {
	quotients := map[impl.Motion]float64{}
	ranked := []impl.Motion{}
	for _, m := range everyMotion() {
		if plainQualifies(a, b, m) {
			sum, count := plainMatch(a, b, m)
			quotients[m] = float64(sum) / float64(count)
			ranked = append(ranked, m)
		}
	}
	slices.SortStableFunc(ranked, func(p impl.Motion, q impl.Motion) int {
		return either(quotients[p] < quotients[q], -1, either(quotients[p] > quotients[q], 1, 0))
	})
	return ranked
}

// plainShifted moves a field by any number of columns and rows at once.
func plainShifted(f impl.Field, across int, down int) impl.Field {
	shifted := fieldOf(f.Wide, f.High, filled(len(f.Cells), gone)...)
	for y := max(down, 0); y < min(f.High+down, f.High); y++ {
		for x := max(across, 0); x < min(f.Wide+across, f.Wide); x++ {
			shifted.Cells[y*f.Wide+x] = f.Cells[(y-down)*f.Wide+x-across]
		}
	}
	return shifted
}

func plainNowcast(b impl.Field, m impl.Motion, steps int) []impl.Field {
	list := []impl.Field{}
	for step := 1; step <= steps; step++ {
		list = append(list, plainShifted(b, step*m.X, step*m.Y))
	}
	return list
}

func expectMotion(t *testing.T, what string, got impl.Motion, ok bool, want impl.Motion) {
	t.Helper()
	if !ok || got != want {
		t.Errorf("%s = %v, %v, not %v", what, got, ok, want)
	}
}

func expectNoMotion(t *testing.T, what string, got impl.Motion, ok bool) {
	t.Helper()
	if ok || got != (impl.Motion{}) {
		t.Errorf("%s = %v, %v", what, got, ok)
	}
}

func expectRanked(t *testing.T, a impl.Field, b impl.Field, want []impl.Motion) {
	t.Helper()
	got, ok := impl.RankMotions(a, b)
	if !ok || !slices.Equal(got, want) {
		t.Errorf("RankMotions of %v and %v = %v, %v, not %v", a, b, got, ok, want)
	}
}

func expectMatch(t *testing.T, a impl.Field, b impl.Field, m impl.Motion, wantSum int, wantCount int) {
	t.Helper()
	sum, count, ok := impl.MatchOf(a, b, m)
	if !ok || sum != wantSum || count != wantCount {
		t.Errorf("MatchOf %v and %v for %v = %d, %d, %v, not %d, %d", a, b, m, sum, count, ok, wantSum, wantCount)
	}
}

// expectApart fails unless every function of chapter 11 for two fields rejects these.
func expectApart(t *testing.T, what string, a impl.Field, b impl.Field) {
	t.Helper()
	for _, m := range append(everyMotion(), motionOf(3, 0), motionOf(0, -3)) {
		sum, count, ok := impl.MatchOf(a, b, m)
		expectNoPair(t, "MatchOf "+what, sum, count, ok)
	}
	best, ok := impl.BestMotion(a, b)
	expectNoMotion(t, "BestMotion of "+what, best, ok)
	ranked, ok := impl.RankMotions(a, b)
	if ok || len(ranked) != 0 {
		t.Errorf("RankMotions of %s = %v, %v", what, ranked, ok)
	}
	for steps := -1; steps <= 7; steps++ {
		list, ok := impl.Nowcast(a, b, steps)
		expectNoMembers(t, "Nowcast of "+what, list, ok)
	}
	sum, count, ok := impl.MotionError(a, b)
	expectNoPair(t, "MotionError of "+what, sum, count, ok)
}

// checkMotions holds every function of chapter 11 for two fields against the tests' own.
func checkMotions(t *testing.T, a impl.Field, b impl.Field) {
	t.Helper()
	for _, m := range everyMotion() {
		sum, count := plainMatch(a, b, m)
		expectMatch(t, a, b, m, sum, count)
	}
	sum, count, ok := impl.MotionError(a, b)
	wantSum, wantCount := plainError(a, b)
	expectPair(t, "MotionError", sum, count, ok, wantSum, wantCount)
	want := plainRanked(a, b)
	expectRanked(t, a, b, want)
	best, ok := impl.BestMotion(a, b)
	if len(want) == 0 {
		expectNoMotion(t, "BestMotion", best, ok)
	} else {
		expectMotion(t, "BestMotion", best, ok, want[0])
	}
	checkNowcasts(t, a, b, want)
}

// checkNowcasts goes over all numbers of steps, and one beyond at both ends.
func checkNowcasts(t *testing.T, a impl.Field, b impl.Field, ranked []impl.Motion) {
	t.Helper()
	for steps := 0; steps <= 7; steps++ {
		list, ok := impl.Nowcast(a, b, steps)
		if len(ranked) == 0 || steps < 1 || steps > 6 {
			expectNoMembers(t, "Nowcast", list, ok)
		} else {
			expectMembers(t, "Nowcast", list, ok, plainNowcast(b, ranked[0], steps))
		}
	}
}

// checkMoves holds the moves of a field against the tests' own.
func checkMoves(t *testing.T, f impl.Field) {
	t.Helper()
	for _, m := range everyMotion() {
		moved, ok := impl.MoveField(f, m)
		if want := plainShifted(f, m.X, m.Y); !ok || !sameField(moved, want) {
			t.Errorf("MoveField of %v by %v = %v, %v, not %v", f, m, moved, ok, want)
		}
	}
}

// checkBest holds the promise: no motion that qualifies has a smaller mean error than the best
// one. It reports whether there is a best one.
func checkBest(t *testing.T, a impl.Field, b impl.Field) bool {
	t.Helper()
	best, ok := impl.BestMotion(a, b)
	sum, count := plainMatch(a, b, best)
	for _, m := range everyMotion() {
		if !plainQualifies(a, b, m) {
			continue
		}
		if !ok || !plainQualifies(a, b, best) {
			t.Errorf("the best motion from %v to %v is %v, %v, and %v qualifies", a, b, best, ok, m)
			return ok
		}
		otherSum, otherCount := plainMatch(a, b, m)
		if big.NewRat(int64(otherSum), int64(otherCount)).Cmp(big.NewRat(int64(sum), int64(count))) < 0 {
			t.Errorf("%v is worse than %v: %d/%d and %d/%d from %v to %v", best, m, sum, count, otherSum, otherCount, a, b)
		}
	}
	return ok
}

func TestLimitsOfMotions(t *testing.T) {
	if impl.MaxShift != 2 || impl.MaxForecast != 6 {
		t.Error("limits", impl.MaxShift, impl.MaxForecast)
	}
}

// writtenMotions are two fields with all motions that qualify, the better ones first, each with
// its error and its count.
type writtenMotions struct {
	a      string
	b      string
	ranked string
}

// writtenMatch reads "1,0:3/4".
func writtenMatch(word string) (impl.Motion, int, int) {
	place, quotient, _ := strings.Cut(word, ":")
	x, y := writtenPair(strings.ReplaceAll(place, ",", "/"))
	sum, count := writtenPair(quotient)
	return motionOf(x, y), sum, count
}

// someMotions are worked out by hand.
func someMotions() []writtenMotions {
	return []writtenMotions{
		// one cell
		{"5", "5", "0,0:0/1"}, {"5", "-7", "0,0:12/1"}, {"9000", "-9000", "0,0:18000/1"}, {"-9000", "9000", "0,0:18000/1"}, {"5", ".", ""}, {".", "5", ""}, {".", ".", ""},
		// one row and one column of two to five cells, moved in each direction
		{"7 1", "2 7", "1,0:0/1 -1,0:1/1 0,0:11/2"}, {"1 7", "7 2", "-1,0:0/1 1,0:1/1 0,0:11/2"}, {"7/1", "2/7", "0,1:0/1 0,-1:1/1 0,0:11/2"}, {"1/7", "7/2", "0,-1:0/1 0,1:1/1 0,0:11/2"},
		{"4 6 8", "1 4 6", "1,0:0/2 0,0:7/3 -1,0:9/2"}, {"4/6/8", "6/8/1", "0,-1:0/2 0,0:11/3 0,1:9/2"}, {"1 2 3 8", "9 9 1 2", "2,0:0/2 1,0:10/3 -2,0:7/2 0,0:23/4 -1,0:20/3"},
		{"3/8/1/2", "1/2/9/9", "0,-2:0/2 0,1:10/3 0,2:7/2 0,-1:15/3 0,0:23/4"}, {"1 2 3 4 5", "5 5 1 2 3", "2,0:0/3 1,0:7/4 -2,0:7/3 0,0:13/5 -1,0:11/4"},
		// the example of the stage: the field as it was, and further right
		{"9 0 0/0 0 0/0 0 0", "0 9 0/0 0 0/0 0 0", "1,0:0/6 0,-1:9/6 -1,0:9/6 0,1:9/6 0,0:18/9"},
		// the same quotient, written by different numbers: the winner has the greater ones, and then the smaller ones
		{"2 2 3 1", "3 2 3 2", "0,0:2/4 -2,0:1/2 2,0:1/2 1,0:2/3 -1,0:4/3"}, {"2/3/1/3", "1/2/1/3", "0,0:2/4 0,-2:1/2 0,2:1/2 0,1:4/3 0,-1:5/3"}, {"2/1/2/0", "2/3/./1", "0,0:3/3 0,-1:2/2 0,1:2/2 0,-2:3/2"},
		{"0/1/0/2", "./2/2/0", "0,-1:2/2 0,1:3/3 0,2:3/2 0,0:5/3"}, {"1 3 3 .", "3 1 2 1", "-1,0:2/2 1,0:3/3 2,0:3/2 0,0:5/3"}, {". 2 2/2 1 3", "1 3 3/3 3 2", "0,-1:3/3 -1,0:4/4 1,0:3/3 0,0:6/5"},
		// an error of 0 with a smaller count, and with a greater one
		{"0 2 0 2", ". 0 2 0", "-1,0:0/2 1,0:0/3 0,0:6/3 2,0:4/2"}, {"2/0/2/.", "0/2/0/2", "0,-1:0/2 0,1:0/3 0,0:6/3 0,2:4/2"}, {"5 5 5 .", ". 5 5 5", "0,0:0/2 1,0:0/3 2,0:0/2"},
		{"5 5 5", "5 5 5", "0,0:0/3 -1,0:0/2 1,0:0/2"}, {"5 . 5 5", "5 5 . 5", "0,0:0/2 1,0:0/2 -2,0:0/2"},
		// quotients that differ, although whole division or rounding gives the same number
		{"9 2 9 3 2 9 0", "9 2 9 2 3 0 2", "2,0:9/5 0,0:13/7 -2,0:18/5 -1,0:26/6 1,0:30/6"}, {"2 1 9 2 9", "3 1 9 0 0", "-2,0:7/3 0,0:12/5 1,0:20/4 2,0:17/3 -1,0:26/4"},
		{"0 0 1 2 1 1 2", "9 0 1 0 3 2 1", "2,0:3/5 1,0:4/6 0,0:15/7 -1,0:14/6 -2,0:12/5"}, {"1/3/0/0/3", "1/9/2/9/3", "0,2:10/3 0,0:17/5 0,-2:11/3 0,-1:19/4 0,1:21/4"},
		// ties for which the smaller sum of X and Y decides against the order of Y and X
		{"2 0/2 2", "2 0/0 0", "0,0:4/4 0,-1:2/2 0,1:2/2 -1,0:4/2 1,0:4/2"}, {"2 3 2 1", "0 1 3 0", "1,0:3/3 -2,0:2/2 0,0:6/4 -1,0:6/3 2,0:4/2"}, {"0 2 2 2/0 1 2 0", "3 2 0 ./2 3 3 2", "0,1:4/4 -2,0:4/4 -1,0:8/6 0,0:12/7 1,0:9/5"},
		{". 3/3 3/0 2/1 1", "2 1/1 2/0 2/1 3", "0,0:7/7 0,-1:6/6 0,-2:4/4 -1,0:5/4 0,1:7/5"},
		// ties for which the smaller Y decides
		{"2 2/0 2", "1 3/3 1", "0,-1:2/2 -1,0:2/2 1,0:2/2 0,1:2/2 0,0:6/4"}, {"1 2/3 1", "1 1/0 2", "1,0:1/2 0,1:1/2 0,-1:2/2 -1,0:2/2 0,0:5/4"}, {"3 0/3 3", "1 2/1 .", "0,-1:3/2 -1,0:3/2 0,0:6/3"},
		// ties for which the smaller X decides
		{"0 2 2 .", "3 1 . 1", "-1,0:2/2 1,0:2/2 0,0:4/2"}, {"0 1 1 3", "3 3 1 0", "-2,0:2/2 2,0:2/2 1,0:4/3 0,0:8/4 -1,0:6/3"}, {"3 0 3/2 2 2", "1 1 0/3 1 0", "-1,0:5/4 1,0:5/4 0,-1:4/3 0,1:4/3 0,0:10/6"},
		// only one that qualifies, and none
		{"4 4 4 . .", "4 . 1 1 4", "2,0:6/3"}, {"1/4/1/./.", "././4/1/4", "0,2:9/3"}, {"1 . 1 1 4", "1 4 4 . .", "-2,0:3/3"}, {"././4/1/4", "4/4/1/./.", "0,-2:6/3"},
		{"1 .", ". 1", "1,0:0/1"}, {". 1", "1 .", "-1,0:0/1"}, {"1 . .", ". 1 .", ""}, {"1 1 1 . . .", ". . . 1 1 1", ""}, {"1 2 3/. . .", ". . ./1 2 3", "0,1:0/3"}, {"1 2/. .", ". ./1 3", "0,1:1/2"},
	}
}

func TestMotionsByHand(t *testing.T) {
	for _, c := range someMotions() {
		a, b := grid(c.a), grid(c.b)
		ranked := []impl.Motion{}
		for _, word := range strings.Fields(c.ranked) {
			m, sum, count := writtenMatch(word)
			expectMatch(t, a, b, m, sum, count)
			ranked = append(ranked, m)
		}
		expectRanked(t, a, b, ranked)
		best, ok := impl.BestMotion(a, b)
		if len(ranked) == 0 {
			expectNoMotion(t, "BestMotion from "+c.a+" to "+c.b, best, ok)
		} else {
			expectMotion(t, "BestMotion from "+c.a+" to "+c.b, best, ok, ranked[0])
		}
		checkMotions(t, a, b)
		checkBest(t, a, b)
	}
}

func TestAllMotionsOfEqualFields(t *testing.T) {
	want := []impl.Motion{
		{X: 0, Y: 0}, {X: 0, Y: -1}, {X: -1, Y: 0}, {X: 1, Y: 0}, {X: 0, Y: 1},
		{X: 0, Y: -2}, {X: -1, Y: -1}, {X: 1, Y: -1}, {X: -2, Y: 0}, {X: 2, Y: 0}, {X: -1, Y: 1}, {X: 1, Y: 1}, {X: 0, Y: 2},
		{X: -1, Y: -2}, {X: 1, Y: -2}, {X: -2, Y: -1}, {X: 2, Y: -1}, {X: -2, Y: 1}, {X: 2, Y: 1}, {X: -1, Y: 2}, {X: 1, Y: 2},
		{X: -2, Y: -2}, {X: 2, Y: -2}, {X: -2, Y: 2}, {X: 2, Y: 2},
	}
	for _, shape := range [][2]int{{8, 8}, {7, 7}, {8, 7}, {7, 8}, {8, 6}} {
		for _, values := range [][2]int{{0, 0}, {5, 5}, {5, 8}, {-9000, 9000}} {
			size := shape[0] * shape[1]
			a, b := fieldOf(shape[0], shape[1], filled(size, values[0])...), fieldOf(shape[0], shape[1], filled(size, values[1])...)
			expectRanked(t, a, b, want)
			checkMotions(t, a, b)
			for _, m := range want {
				count := (shape[0] - absolute(m.X)) * (shape[1] - absolute(m.Y))
				expectMatch(t, a, b, m, count*(values[1]-values[0])*either(values[1] < values[0], -1, 1), count)
			}
		}
	}
	f := fieldOf(6, 6, filled(36, 1)...)
	expectRanked(t, f, f, want[:21])
	f = fieldOf(4, 4, filled(16, 1)...)
	expectRanked(t, f, f, slices.Concat(want[:5], want[5:13]))
	f = fieldOf(3, 3, filled(9, 1)...)
	expectRanked(t, f, f, want[:5])
	f = fieldOf(8, 1, filled(8, 1)...)
	expectRanked(t, f, f, []impl.Motion{{X: 0}, {X: -1}, {X: 1}, {X: -2}, {X: 2}})
	f = fieldOf(1, 8, filled(8, 1)...)
	expectRanked(t, f, f, []impl.Motion{{Y: 0}, {Y: -1}, {Y: 1}, {Y: -2}, {Y: 2}})
}

// almostEqual returns fields in which the sums apart and center are the errors of no motion and
// of one by a single cell, which leaves the cell left behind, both without missing of the cells
// and with more in each of them.
func almostEqual(left int, missing int, apart int, center int, more int) (impl.Field, impl.Field) {
	value := either(more > 8000, -9000, 0)
	a, b := fieldOf(8, 8, filled(64, value)...), fieldOf(8, 8, filled(64, value+more)...)
	for _, at := range []int{18, 20, 36, 42, 45}[:missing] {
		b.Cells[at] = gone
	}
	b.Cells[27] += center
	b.Cells[left] += apart - center
	return a, b
}

func TestQuotientsThatAreAlmostEqual(t *testing.T) {
	for _, c := range []struct {
		m    impl.Motion
		left int
	}{{motionOf(1, 0), 32}, {motionOf(-1, 0), 39}, {motionOf(0, 1), 4}, {motionOf(0, -1), 60}} {
		// 48/55 is less than 55/63 by 1/3465, and so it is with the others.
		for _, sums := range [][3]int{{1, 55, 48}, {3, 38, 33}, {5, 22, 19}} {
			for _, more := range []int{0, 1, 999, 17900} {
				missing, apart, center := sums[0], sums[1], sums[2]
				a, b := almostEqual(c.left, missing, apart, center, more)
				expectMatch(t, a, b, motionOf(0, 0), (64-missing)*more+apart, 64-missing)
				expectMatch(t, a, b, c.m, (56-missing)*more+center, 56-missing)
				best, ok := impl.BestMotion(a, b)
				expectMotion(t, "BestMotion by a small part", best, ok, c.m)
				checkMotions(t, a, b)
				checkBest(t, a, b)
			}
		}
	}
}

// expectQualifies fails unless a motion is ranked or not.
func expectQualifies(t *testing.T, a impl.Field, b impl.Field, m impl.Motion, want bool) {
	t.Helper()
	ranked, ok := impl.RankMotions(a, b)
	if !ok || slices.Contains(ranked, m) != want {
		t.Errorf("RankMotions of %v and %v = %v, %v: %v in it is not %v", a, b, ranked, ok, m, want)
	}
}

// someGone returns a field of one value in which count cells are not Missing.
func someGone(random *rand.Rand, wide int, high int, count int) impl.Field {
	f := fieldOf(wide, high, filled(wide*high, gone)...)
	for _, at := range random.Perm(wide * high)[:count] {
		f.Cells[at] = 3
	}
	return f
}

func TestHalfOfTheCells(t *testing.T) {
	random := rand.New(rand.NewPCG(11, 1))
	everyShape(func(wide int, high int) {
		for count := 0; count <= wide*high; count++ {
			full, part := fieldOf(wide, high, filled(wide*high, 4)...), someGone(random, wide, high, count)
			want := count*2 >= wide*high
			for _, pair := range [][2]impl.Field{{part, full}, {full, part}, {part, part}} {
				expectQualifies(t, pair[0], pair[1], motionOf(0, 0), want)
			}
			expectMatch(t, part, full, motionOf(0, 0), count, count)
			expectMatch(t, full, part, motionOf(0, 0), count, count)
			expectMatch(t, part, part, motionOf(0, 0), 0, count)
		}
	})
}

func TestHalfOfTheCellsOfMotions(t *testing.T) {
	for _, c := range []struct {
		a, b  string
		m     impl.Motion
		count int
		is    bool
	}{
		{"1 1 1 1", "1 1 1 1", motionOf(2, 0), 2, true}, {"1 1 1 1", "1 1 1 1", motionOf(-2, 0), 2, true}, {"1 1 1 1", "1 1 1 .", motionOf(2, 0), 1, false}, {". 1 1 1", "1 1 1 1", motionOf(2, 0), 1, false},
		{"1 1 1 1", "1 1 . .", motionOf(2, 0), 0, false}, {"1 1 1 1 1", "1 1 1 1 1", motionOf(2, 0), 3, true}, {"1 1 . 1 1", "1 1 1 1 1", motionOf(2, 0), 2, false}, {"1 1 1 1 1", ". 1 1 1 1", motionOf(-2, 0), 2, false},
		{"1 1 1", "1 1 1", motionOf(1, 0), 2, true}, {"1 1 1", "1 1 1", motionOf(2, 0), 1, false}, {"1/1/1", "1/1/1", motionOf(0, -2), 1, false}, {"1/1/1", "1/1/1", motionOf(0, -1), 2, true},
		{"1 1", "1 1", motionOf(1, 0), 1, true}, {"1 1", "1 1", motionOf(2, 0), 0, false}, {"1 1/1 1", "1 1/1 1", motionOf(1, 1), 1, false}, {"1 1/1 1", "1 1/1 1", motionOf(0, 1), 2, true}, {"1", "1", motionOf(1, 0), 0, false},
		{"1", "1", motionOf(0, 1), 0, false}, {"1", "1", motionOf(0, 0), 1, true}, {"1", ".", motionOf(0, 0), 0, false}, {"1 1 1/1 1 1/1 1 1", "1 1 1/1 1 1/1 1 1", motionOf(1, 1), 4, false},
		{"1 1 1/1 1 1/1 1 1", "1 1 1/1 1 1/1 1 1", motionOf(0, -1), 6, true}, {"1 1 1/1 1 1/1 1 1", "1 1 ./1 1 1/1 1 1", motionOf(0, -1), 5, true}, {"1 1 1/1 1 1/1 1 .", "1 1 ./1 1 1/1 1 1", motionOf(0, -1), 4, false},
		{"1 1 1 1/1 1 1 1", "1 1 1 1/1 1 1 1", motionOf(2, 0), 4, true}, {"1 1 1 1/. 1 1 1", "1 1 1 1/1 1 1 1", motionOf(2, 0), 3, false}, {"1 1 1 1/1 1 1 1", "1 1 1 1/1 1 1 1", motionOf(1, 1), 3, false},
	} {
		expectMatch(t, grid(c.a), grid(c.b), c.m, 0, c.count)
		expectQualifies(t, grid(c.a), grid(c.b), c.m, c.is)
		checkMotions(t, grid(c.a), grid(c.b))
	}
}

func TestMatchesByHand(t *testing.T) {
	for _, c := range []struct {
		a, b       string
		m          impl.Motion
		sum, count int
	}{
		{"1 2 3/4 5 6", "9 9 9/9 9 9", motionOf(0, 0), 33, 6}, {"1 2 3/4 5 6", "9 9 9/9 9 9", motionOf(1, 0), 24, 4}, {"1 2 3/4 5 6", "9 9 9/9 9 9", motionOf(-1, 0), 20, 4}, {"1 2 3/4 5 6", "9 9 9/9 9 9", motionOf(0, 1), 21, 3},
		{"1 2 3/4 5 6", "9 9 9/9 9 9", motionOf(0, -1), 12, 3}, {"1 2 3/4 5 6", "9 9 9/9 9 9", motionOf(2, 1), 8, 1}, {"1 2 3/4 5 6", "9 9 9/9 9 9", motionOf(-2, 1), 6, 1}, {"1 2 3/4 5 6", "9 9 9/9 9 9", motionOf(2, -1), 5, 1},
		{"1 2 3/4 5 6", "9 9 9/9 9 9", motionOf(-2, -1), 3, 1}, {"1 2 3/4 5 6", "9 9 9/9 9 9", motionOf(0, 2), 0, 0}, {"1 2 3/4 5 6", "9 9 9/9 9 9", motionOf(0, -2), 0, 0},
		{"1 . 3/4 5 6", "9 9 9/9 9 9", motionOf(0, 0), 26, 5}, {"1 2 3/4 5 6", "9 9 9/9 . 9", motionOf(0, 0), 29, 5}, {"1 . 3/4 5 6", "9 9 9/9 . 9", motionOf(0, 0), 22, 4}, {"1 . 3/4 5 6", "9 . 9/9 9 9", motionOf(0, 0), 26, 5},
		{"1 . 3/4 5 6", "9 9 9/9 . 9", motionOf(1, 0), 12, 2}, {"1 . 3/4 5 6", ". . ./. . .", motionOf(0, 0), 0, 0}, {". . ./. . .", "1 . 3/4 5 6", motionOf(0, 0), 0, 0}, {". . ./. . .", ". . ./. . .", motionOf(1, 1), 0, 0},
		{"-5 5 0", "5 -5 0", motionOf(0, 0), 20, 3}, {"-5 5 0", "5 -5 0", motionOf(1, 0), 5, 2}, {"-5 5 0", "5 -5 0", motionOf(2, 0), 5, 1}, {"-5 5 0", "5 -5 0", motionOf(-2, 0), 5, 1},
		{"9000 -9000", "-9000 9000", motionOf(0, 0), 36000, 2}, {"9000 -9000", "-9000 9000", motionOf(-1, 0), 0, 1}, {"9000 .", "-9000 0", motionOf(0, 0), 18000, 1}, {"-9000 .", ". 9000", motionOf(1, 0), 18000, 1},
	} {
		expectMatch(t, grid(c.a), grid(c.b), c.m, c.sum, c.count)
		checkMotions(t, grid(c.a), grid(c.b))
	}
	sum, count, ok := impl.MatchOf(fieldOf(8, 8, filled(64, -9000)...), fieldOf(8, 8, filled(64, 9000)...), motionOf(0, 0))
	expectPair(t, "the greatest error", sum, count, ok, 64*18000, 64)
}

func TestEveryPlaceOfAnError(t *testing.T) {
	everyShape(func(wide int, high int) {
		for _, m := range everyMotion() {
			at := (wide*7 + high*5 + m.X*3 + m.Y + 20) % (wide * high)
			a, b := fieldOf(wide, high, filled(wide*high, 4)...), fieldOf(wide, high, filled(wide*high, 4)...)
			a.Cells[at] = 11
			x, y := at%wide+m.X, at/wide+m.Y
			count := max(wide-absolute(m.X), 0) * max(high-absolute(m.Y), 0)
			is := x >= 0 && x < wide && y >= 0 && y < high
			expectMatch(t, a, b, m, either(is, 7, 0), count)
			if is {
				b.Cells[y*wide+x] = -2
				expectMatch(t, a, b, m, 13, count)
				b.Cells[y*wide+x] = gone
				expectMatch(t, a, b, m, 0, count-1)
				a.Cells[at] = gone
				expectMatch(t, a, b, m, 0, count-1)
				b.Cells[y*wide+x] = 4
				expectMatch(t, a, b, m, 0, count-1)
			}
		}
	})
}

func TestMotionsOutOfRange(t *testing.T) {
	for _, f := range []impl.Field{fieldOf(1, 1, 0), fieldOf(1, 1, gone), fieldOf(3, 2, 1, -7, gone, 5, 0, 2), countingField(8, 8), countingField(8, 1), countingField(1, 8), {}} {
		for _, m := range badMotions() {
			sum, count, ok := impl.MatchOf(f, f, m)
			expectNoPair(t, "MatchOf", sum, count, ok)
			moved, ok := impl.MoveField(f, m)
			expectNoField(t, "MoveField", moved, ok)
			turned, ok := impl.ReverseMotion(m)
			expectNoMotion(t, "ReverseMotion", turned, ok)
		}
	}
	f := countingField(5, 4)
	for x := -5; x <= 5; x++ {
		for y := -5; y <= 5; y++ {
			_, _, okMatch := impl.MatchOf(f, f, motionOf(x, y))
			_, okMove := impl.MoveField(f, motionOf(x, y))
			_, okReverse := impl.ReverseMotion(motionOf(x, y))
			want := x >= -2 && x <= 2 && y >= -2 && y <= 2
			if okMatch != want || okMove != want || okReverse != want {
				t.Errorf("%d, %d: %v, %v, %v", x, y, okMatch, okMove, okReverse)
			}
		}
	}
}

func TestMotionsOfEveryPairOfShapes(t *testing.T) {
	everyShape(func(wide int, high int) {
		everyShape(func(otherWide int, otherHigh int) {
			a := fieldOf(wide, high, filled(wide*high, 4)...)
			b := fieldOf(otherWide, otherHigh, filled(otherWide*otherHigh, 4)...)
			if wide == otherWide && high == otherHigh {
				checkMotions(t, a, b)
			} else {
				expectApart(t, "different shapes", a, b)
			}
		})
	})
	nothing := fieldOf(2, 3, filled(6, gone)...)
	expectApart(t, "different shapes without values", nothing, fieldOf(3, 2, filled(6, gone)...))
}

func TestMotionsRejectFields(t *testing.T) {
	for name, bad := range invalidFields() {
		for _, cell := range []int{0, 5, gone} {
			good := shapedLike(bad, cell)
			expectApart(t, "first "+name, bad, good)
			expectApart(t, "second "+name, good, bad)
		}
		expectApart(t, "twice "+name, bad, bad)
		for _, m := range append(everyMotion(), motionOf(3, 0), motionOf(0, -3)) {
			moved, ok := impl.MoveField(bad, m)
			expectNoField(t, "MoveField of "+name, moved, ok)
		}
	}
}

func TestMovesByHand(t *testing.T) {
	for _, c := range []struct {
		f    string
		m    impl.Motion
		want string
	}{
		{"1 2 3/4 5 6/7 8 9", motionOf(0, 0), "1 2 3/4 5 6/7 8 9"}, {"1 2 3/4 5 6/7 8 9", motionOf(1, 0), ". 1 2/. 4 5/. 7 8"}, {"1 2 3/4 5 6/7 8 9", motionOf(-1, 0), "2 3 ./5 6 ./8 9 ."},
		{"1 2 3/4 5 6/7 8 9", motionOf(0, 1), ". . ./1 2 3/4 5 6"}, {"1 2 3/4 5 6/7 8 9", motionOf(0, -1), "4 5 6/7 8 9/. . ."}, {"1 2 3/4 5 6/7 8 9", motionOf(1, 1), ". . ./. 1 2/. 4 5"},
		{"1 2 3/4 5 6/7 8 9", motionOf(-1, -1), "5 6 ./8 9 ./. . ."}, {"1 2 3/4 5 6/7 8 9", motionOf(1, -1), ". 4 5/. 7 8/. . ."}, {"1 2 3/4 5 6/7 8 9", motionOf(-1, 1), ". . ./2 3 ./5 6 ."},
		{"1 2 3/4 5 6/7 8 9", motionOf(2, 0), ". . 1/. . 4/. . 7"}, {"1 2 3/4 5 6/7 8 9", motionOf(-2, 1), ". . ./3 . ./6 . ."}, {"1 2 3/4 5 6/7 8 9", motionOf(2, -2), ". . 7/. . ./. . ."},
		{"1 2 3/4 5 6/7 8 9", motionOf(0, -2), "7 8 9/. . ./. . ."}, {"1 2 3/4 5 6/7 8 9", motionOf(0, 2), ". . ./. . ./1 2 3"}, {"1 2 3/4 5 6/7 8 9", motionOf(-2, -2), "9 . ./. . ./. . ."},
		{"1 2", motionOf(2, 0), ". ."}, {"1 2", motionOf(-2, 0), ". ."}, {"1 2", motionOf(0, 1), ". ."}, {"1 2", motionOf(0, -1), ". ."}, {"1 2", motionOf(1, 0), ". 1"}, {"1/2", motionOf(0, 1), "./1"},
		{"1/2", motionOf(1, 0), "./."}, {"5", motionOf(0, 0), "5"}, {"5", motionOf(1, 0), "."}, {"5", motionOf(-2, 2), "."}, {".", motionOf(0, 0), "."}, {".", motionOf(0, -1), "."},
		{"1 . 3 .", motionOf(1, 0), ". 1 . 3"}, {"1 . 3 .", motionOf(-1, 0), ". 3 . ."}, {". . ./. 0 .", motionOf(0, -1), ". 0 ./. . ."}, {"9000 -9000", motionOf(1, 0), ". 9000"}, {"9000 -9000", motionOf(-1, 0), "-9000 ."},
	} {
		moved, ok := impl.MoveField(grid(c.f), c.m)
		expectField(t, "MoveField of "+c.f, moved, ok, grid(c.want))
	}
}

func TestMovesOfEveryShape(t *testing.T) {
	random := rand.New(rand.NewPCG(11, 2))
	everyShape(func(wide int, high int) {
		checkMoves(t, countingField(wide, high))
		for _, share := range []int{0, 30, 80, 100} {
			checkMoves(t, sparseField(random, wide, high, 9000, share))
		}
	})
	for _, w := range writtenFields() {
		checkMoves(t, w.field)
	}
}

func TestMovesThereAndBack(t *testing.T) {
	everyShape(func(wide int, high int) {
		f := countingField(wide, high)
		f.Cells[len(f.Cells)/2] = gone
		for _, m := range everyMotion() {
			there, _ := impl.MoveField(f, m)
			turned, _ := impl.ReverseMotion(m)
			back, ok := impl.MoveField(there, turned)
			for at, cell := range f.Cells {
				x, y := at%wide+m.X, at/wide+m.Y
				kept := x >= 0 && x < wide && y >= 0 && y < high
				if want := either(kept, cell, gone); !ok || back.Cells[at] != want {
					t.Errorf("cell %d of %d by %d is %v there and back by %v, not %d", at, wide, high, back, m, want)
				}
			}
		}
	})
}

func TestReversedMotions(t *testing.T) {
	for x := -2; x <= 2; x++ {
		for y := -2; y <= 2; y++ {
			turned, ok := impl.ReverseMotion(motionOf(x, y))
			expectMotion(t, "ReverseMotion", turned, ok, motionOf(-x, -y))
			again, ok := impl.ReverseMotion(turned)
			expectMotion(t, "ReverseMotion twice", again, ok, motionOf(x, y))
		}
	}
}

func TestMatchesOfReversedMotions(t *testing.T) {
	random := rand.New(rand.NewPCG(11, 3))
	everyShape(func(wide int, high int) {
		a, b := sparseField(random, wide, high, 40, 30), sparseField(random, wide, high, 40, 30)
		for _, m := range everyMotion() {
			sum, count, _ := impl.MatchOf(a, b, m)
			turned, _ := impl.ReverseMotion(m)
			expectMatch(t, b, a, turned, sum, count)
			moved, _ := impl.MoveField(a, m)
			apart, places, ok := impl.MotionError(moved, b)
			expectPair(t, "MotionError of the moved field", apart, places, ok, sum, count)
		}
	})
}

func TestForecastsByHand(t *testing.T) {
	for _, c := range []struct {
		a, b string
		want []string
	}{
		{"3 1 4 1 5 9 2 6", "7 3 1 4 1 5 9 2", []string{". 7 3 1 4 1 5 9", ". . 7 3 1 4 1 5", ". . . 7 3 1 4 1", ". . . . 7 3 1 4", ". . . . . 7 3 1", ". . . . . . 7 3"}},
		{"3/1/4/1/5/9/2", "4/1/5/9/2/8/0", []string{"5/9/2/8/0/./.", "2/8/0/./././.", "0/./././././.", "././././././.", "././././././.", "././././././."}},
		{"9 0 0/0 0 0/0 0 0", "0 9 0/0 0 0/0 0 0", []string{". 0 9/. 0 0/. 0 0", ". . 0/. . 0/. . 0", ". . ./. . ./. . .", ". . ./. . ./. . .", ". . ./. . ./. . .", ". . ./. . ./. . ."}},
		{"1 5/2 .", "1 5/2 7", []string{"1 5/2 7", "1 5/2 7", "1 5/2 7", "1 5/2 7", "1 5/2 7", "1 5/2 7"}},
		{"1 2 3 4/. . . ./5 6 7 8", ". . . ./0 1 2 3/. . . .", nil},
		{"0 0 0 0/0 8 9 0/0 7 6 0/0 0 0 0", "0 0 0 0/0 0 0 0/0 0 8 9/0 0 7 6", []string{". . . ./. 0 0 0/. 0 0 0/. 0 0 8", ". . . ./. . . ./. . 0 0/. . 0 0", ". . . ./. . . ./. . . ./. . . 0", ". . . ./. . . ./. . . ./. . . .", ". . . ./. . . ./. . . ./. . . .", ". . . ./. . . ./. . . ./. . . ."}},
		{"1", ".", nil}, {"1 . .", ". 1 .", nil},
	} {
		a, b := grid(c.a), grid(c.b)
		for steps := -1; steps <= 7; steps++ {
			list, ok := impl.Nowcast(a, b, steps)
			if steps < 1 || steps > 6 || c.want == nil {
				expectNoMembers(t, "Nowcast from "+c.a+" to "+c.b, list, ok)
				continue
			}
			want := []impl.Field{}
			for _, s := range c.want[:steps] {
				want = append(want, grid(s))
			}
			expectMembers(t, "Nowcast from "+c.a+" to "+c.b, list, ok, want)
		}
	}
}

func TestEveryForecastIsTheMovedOneBefore(t *testing.T) {
	random := rand.New(rand.NewPCG(11, 4))
	moves := map[bool]int{}
	for range 1500 {
		wide, high := random.IntN(8)+1, random.IntN(8)+1
		a := sparseField(random, wide, high, 90, 10)
		b := plainShifted(a, random.IntN(5)-2, random.IntN(5)-2)
		best, is := impl.BestMotion(a, b)
		moves[is]++
		for _, steps := range append(farNumbers(), -6, -1, 0, 1, 2, 5, 6, 7, 8, 12, 256, 257, gone) {
			list, ok := impl.Nowcast(a, b, steps)
			if !is || steps < 1 || steps > 6 {
				expectNoMembers(t, "Nowcast of "+strconv.Itoa(steps)+" steps", list, ok)
				continue
			}
			if !ok || len(list) != steps {
				t.Fatalf("Nowcast of %d steps = %v, %v", steps, list, ok)
			}
			before := b
			for _, f := range list {
				moved, ok := impl.MoveField(before, best)
				expectField(t, "the next forecast", f, ok, moved)
				before = f
			}
		}
	}
	if moves[true] < 100 || moves[false] < 20 {
		t.Error("fields with a best motion and without:", moves)
	}
}

func TestErrorsOfForecasts(t *testing.T) {
	for _, c := range []struct {
		forecast, observed string
		sum, count         int
	}{
		{"1 2/3 4", "1 2/3 4", 0, 4}, {"1 2/3 4", "4 3/2 1", 8, 4}, {"1 ./3 4", "4 3/2 1", 7, 3}, {"1 2/3 4", "4 3/2 .", 5, 3}, {"1 ./3 4", "4 3/2 .", 4, 2}, {"1 ./3 4", "4 ./2 1", 7, 3},
		{". ./. .", "4 3/2 1", 0, 0}, {"4 3/2 1", ". ./. .", 0, 0}, {". ./. .", ". ./. .", 0, 0}, {"1 ./. 4", ". 3/2 .", 0, 0}, {"1 . .", ". 3 .", 0, 0}, {"-5", "5", 10, 1}, {"5", "-5", 10, 1},
		{"0", "0", 0, 1}, {".", "0", 0, 0}, {"9000 -9000", "-9000 9000", 36000, 2}, {"-9000 -9000", "9000 .", 18000, 1}, {"1 2 3 4 5 6 7 8", "8 7 6 5 4 3 2 1", 32, 8}, {"1/2/3", "./2/1", 2, 2},
	} {
		sum, count, ok := impl.MotionError(grid(c.forecast), grid(c.observed))
		expectPair(t, "MotionError of "+c.forecast+" and "+c.observed, sum, count, ok, c.sum, c.count)
		sum, count, ok = impl.MotionError(grid(c.observed), grid(c.forecast))
		expectPair(t, "MotionError of "+c.observed+" and "+c.forecast, sum, count, ok, c.sum, c.count)
	}
	sum, count, ok := impl.MotionError(fieldOf(8, 8, filled(64, 9000)...), fieldOf(8, 8, filled(64, -9000)...))
	expectPair(t, "the greatest error", sum, count, ok, 64*18000, 64)
}

// everyTwoFields calls a function with all pairs of fields of a shape over some cells.
func everyTwoFields(wide int, high int, cells []int, call func(a impl.Field, b impl.Field)) {
	size := wide * high
	listsOver(cells, 2*size, func(list []int) {
		call(fieldOf(wide, high, list[:size]...), fieldOf(wide, high, list[size:]...))
	})
}

func TestEveryPairOfSmallFields(t *testing.T) {
	everyTwoFields(1, 1, sampleCells(), func(a impl.Field, b impl.Field) { checkMotions(t, a, b) })
	for _, shape := range [][2]int{{1, 2}, {2, 1}, {1, 3}, {3, 1}} {
		everyTwoFields(shape[0], shape[1], []int{gone, 0, 1, 4}, func(a impl.Field, b impl.Field) {
			checkMotions(t, a, b)
			checkBest(t, a, b)
		})
	}
	for _, shape := range [][2]int{{2, 2}, {1, 4}, {4, 1}} {
		everyTwoFields(shape[0], shape[1], []int{gone, -1, 2}, func(a impl.Field, b impl.Field) { checkMotions(t, a, b) })
	}
	for _, shape := range [][2]int{{1, 5}, {5, 1}, {3, 2}, {2, 3}} {
		everyTwoFields(shape[0], shape[1], []int{gone, 7}, func(a impl.Field, b impl.Field) { checkMotions(t, a, b) })
		everyTwoFields(shape[0], shape[1], []int{0, 1}, func(a impl.Field, b impl.Field) { checkMotions(t, a, b) })
	}
	for _, shape := range [][2]int{{1, 1}, {2, 2}, {3, 2}, {2, 3}, {6, 1}, {1, 6}} {
		listsOver([]int{gone, -1, 2}, shape[0]*shape[1], func(list []int) { checkMoves(t, fieldOf(shape[0], shape[1], list...)) })
	}
}

func TestMotionsOfEveryShape(t *testing.T) {
	random := rand.New(rand.NewPCG(11, 5))
	counts := map[int]int{}
	everyShape(func(wide int, high int) {
		for _, share := range []int{0, 5, 20, 50, 100} {
			for _, size := range []int{0, 1, 3, 100, 9000} {
				a, b := sparseField(random, wide, high, size, share), sparseField(random, wide, high, size, share)
				checkMotions(t, a, b)
				checkBest(t, a, b)
				moved := plainShifted(a, random.IntN(5)-2, random.IntN(5)-2)
				checkMotions(t, a, moved)
				checkBest(t, a, moved)
				counts[len(plainRanked(a, b))]++
			}
		}
	})
	if counts[0] < 100 || counts[25] < 10 || len(counts) < 20 {
		t.Error("fields by their numbers of motions that qualify:", counts)
	}
}

func TestNoMotionIsBetterThanTheBestOne(t *testing.T) {
	random := rand.New(rand.NewPCG(11, 6))
	found := map[bool]int{}
	for range 6000 {
		wide, high, share := random.IntN(8)+1, random.IntN(8)+1, random.IntN(60)
		size := []int{1, 2, 5, 40, 9000}[random.IntN(5)]
		a, b := sparseField(random, wide, high, size, share), sparseField(random, wide, high, size, share)
		found[checkBest(t, a, b)]++
		if ranked, _ := impl.RankMotions(a, b); len(ranked) > 0 {
			best, ok := impl.BestMotion(a, b)
			expectMotion(t, "BestMotion", best, ok, ranked[0])
		}
	}
	if found[true] < 1000 || found[false] < 1000 {
		t.Error("fields with a best motion and without:", found)
	}
}

func TestMovedFieldsAreFound(t *testing.T) {
	random := rand.New(rand.NewPCG(11, 7))
	for _, m := range everyMotion() {
		for range 40 {
			wide, high := random.IntN(2)+7, random.IntN(2)+7
			a := fieldOf(wide, high, random.Perm(9000)[:wide*high]...)
			b := plainShifted(a, m.X, m.Y)
			best, ok := impl.BestMotion(a, b)
			expectMotion(t, "BestMotion of a moved field", best, ok, m)
			for at, cell := range b.Cells {
				if cell == gone {
					b.Cells[at] = random.IntN(9000) - 9000
				}
			}
			best, ok = impl.BestMotion(a, b)
			expectMotion(t, "BestMotion of a moved field that is filled", best, ok, m)
			turned, ok := impl.BestMotion(b, a)
			expectMotion(t, "BestMotion back", turned, ok, motionOf(-m.X, -m.Y))
		}
	}
}

// memoryFields are pairs of fields with a best motion: to the side, up, none, and by two.
func memoryFields() [][]impl.Field {
	return [][]impl.Field{
		{grid("3 1 4 1 5"), grid("7 3 1 4 1")}, {grid("3/1/4/1"), grid("1/4/1/.")}, {grid("1 5/2 ."), grid("1 5/2 7")}, {fieldOf(1, 1, 4), fieldOf(1, 1, -4)},
		{countingField(8, 8), plainShifted(countingField(8, 8), 2, -2)}, {fieldOf(8, 8, filled(64, 9000)...), fieldOf(8, 8, filled(64, -9000)...)},
	}
}

// motionCalls are the functions of chapter 11 that return fields. Of a forecast they return the
// last field.
func motionCalls() []algebraCall {
	calls := []algebraCall{}
	for _, m := range everyMotion() {
		calls = append(calls, algebraCall{"MoveField", 1, func(f []impl.Field) (impl.Field, bool) { return impl.MoveField(f[0], m) }})
	}
	for steps := 1; steps <= 6; steps++ {
		calls = append(calls, algebraCall{"Nowcast " + strconv.Itoa(steps), 2, func(f []impl.Field) (impl.Field, bool) {
			list, ok := impl.Nowcast(f[0], f[1], steps)
			if !ok || len(list) != steps {
				return impl.Field{}, false
			}
			return list[steps-1], ok
		}})
	}
	return calls
}

func TestMotionsAndMemory(t *testing.T) {
	for _, fields := range memoryFields() {
		for _, call := range motionCalls() {
			checkMemory(t, call, fields)
		}
		for _, steps := range []int{1, 2, 6} {
			list, _ := impl.Nowcast(fields[0], fields[1], steps)
			second, _ := impl.Nowcast(fields[0], fields[1], steps)
			if shareElements(list, second) {
				t.Error("two forecasts share memory")
			}
			checkListsAndMemory(t, "Nowcast", cellsOfMembers(list), cellsOfMembers(second), fields[1].Cells)
			clear(second[:cap(second)])
			expectMembers(t, "Nowcast after another one is changed", list, true, plainNowcast(fields[1], plainRanked(fields[0], fields[1])[0], steps))
		}
	}
}

func TestRankedMotionsAndMemory(t *testing.T) {
	for _, fields := range memoryFields() {
		a, roomA := roomy(fields[0])
		b, roomB := roomy(fields[1])
		ranked, _ := impl.RankMotions(a, b)
		second, _ := impl.RankMotions(a, b)
		if shareElements(ranked, second) {
			t.Error("two rankings share memory")
		}
		want := plainRanked(a, b)
		clear(second[:cap(second)])
		expectRanked(t, a, b, want)
		clear(roomA)
		clear(roomB)
		if !slices.Equal(ranked, want) {
			t.Errorf("the motions change with the fields or with other motions: %v, not %v", ranked, want)
		}
	}
}

func TestFieldsOfMotionsAreLeft(t *testing.T) {
	pairs := append(memoryFields(), []impl.Field{grid("1 . ."), grid(". 1 .")}, []impl.Field{grid("1 2 3"), grid("1/2/3")}, []impl.Field{grid("1 2 9001"), grid("1 2 -9001")})
	for i, fields := range pairs {
		a, roomA := roomy(fields[0])
		b, roomB := roomy(fields[1])
		rooms := [][]int{roomA, roomB}
		before := cloneLists(rooms)
		if i < len(memoryFields())+1 {
			checkMotions(t, a, b)
			checkMoves(t, a)
		} else {
			expectApart(t, "fields of two shapes, or none", a, b)
		}
		for _, m := range badMotions() {
			impl.MatchOf(a, b, m)
			impl.MoveField(a, m)
		}
		for _, steps := range farNumbers() {
			impl.Nowcast(a, b, steps)
		}
		if !sameLists(rooms, before) {
			t.Errorf("the fields are modified: %v from %v", rooms, before)
		}
	}
}

func TestMotionsOfAFieldAndItself(t *testing.T) {
	for _, w := range writtenFields() {
		f, room := roomy(w.field)
		before := slices.Clone(room)
		checkMotions(t, f, f)
		list, ok := impl.Nowcast(f, f, 6)
		if missing, _ := impl.CountMissing(f); missing*2 > len(f.Cells) {
			expectNoMembers(t, "Nowcast", list, ok)
			continue
		}
		expectMembers(t, "Nowcast", list, ok, slices.Repeat([]impl.Field{w.field}, 6))
		for _, forecast := range list {
			if shareElements(forecast.Cells, room) {
				t.Error("a forecast shares memory with the fields")
			}
			clear(forecast.Cells)
		}
		if !slices.Equal(room, before) {
			t.Errorf("the field changes with a forecast: %v from %v", room, before)
		}
	}
}

func TestMotionsDoNotReadBehindTheLength(t *testing.T) {
	cells := []int{1, 2, 3, 4, 9000, -9000}
	short := fieldOf(2, 2, cells[:4]...)
	checkMotions(t, short, short)
	checkMoves(t, short)
	for _, bad := range []impl.Field{fieldOf(2, 2, cells[:3]...), fieldOf(3, 2, cells[:4]...), fieldOf(3, 2, cells[:5]...), fieldOf(1, 1, cells[:0]...)} {
		expectApart(t, "a first field completed from behind its length", bad, short)
		expectApart(t, "a second field completed from behind its length", short, bad)
		expectApart(t, "fields completed from behind their length", bad, bad)
		for _, m := range everyMotion() {
			moved, ok := impl.MoveField(bad, m)
			expectNoField(t, "MoveField", moved, ok)
		}
	}
}
