package tests

import (
	"math/big"
	"math/rand/v2"
	"slices"
	"strconv"
	"testing"

	"loop.example/g00889/impl"
)

// plainOverlap counts the units that lie in both columns.
func plainOverlap(a int, c int, i int, k int) int {
	count := 0
	for unit := range a * c {
		if unit/c == i && unit/a == k {
			count++
		}
	}
	return count
}

// plainSplit orders the places by what the exact share of each has beyond a whole number.
func plainSplit(value int, weights []int) []int {
	sum := 0
	for _, weight := range weights {
		sum += weight
	}
	parts, places, beyond := []int{}, []int{}, []*big.Int{}
	left := value
	for place, weight := range weights {
		// DivMod is Euclidean: with a positive sum it rounds down.
		part, rest := new(big.Int).DivMod(big.NewInt(int64(value*weight)), big.NewInt(int64(sum)), new(big.Int))
		parts = append(parts, int(part.Int64()))
		places = append(places, place)
		beyond = append(beyond, rest)
		left -= int(part.Int64())
	}
	slices.SortStableFunc(places, func(p int, q int) int { return beyond[q].Cmp(beyond[p]) })
	for _, place := range places[:left] {
		parts[place]++
	}
	return parts
}

// plainRegrid divides the ground into its units; it is false where a cell is out of range.
func plainRegrid(f impl.Field, wide int, high int) (impl.Field, bool) {
	made := fieldOf(wide, high, filled(wide*high, 0)...)
	overlaps := make([][]int, len(f.Cells))
	for i := range overlaps {
		overlaps[i] = filled(wide*high, 0)
	}
	for v := range f.High * high {
		for u := range f.Wide * wide {
			overlaps[v/high*f.Wide+u/wide][v/f.High*wide+u/f.Wide]++
		}
	}
	for i, value := range f.Cells {
		for k, part := range plainSplit(value, overlaps[i]) {
			made.Cells[k] += part
		}
	}
	return made, allInRange(made.Cells)
}

func allInRange(cells []int) bool {
	return !slices.ContainsFunc(cells, func(cell int) bool { return cell < -9000 || cell > 9000 })
}

// plainSums adds up block by block; the sums may be out of range.
func plainSums(f impl.Field, across int, down int) impl.Field {
	sums := []int{}
	for top := 0; top < f.High; top += down {
		for left := 0; left < f.Wide; left += across {
			sum := 0
			for y := top; y < top+down; y++ {
				for _, value := range f.Cells[y*f.Wide+left : y*f.Wide+left+across] {
					sum += value
				}
			}
			sums = append(sums, sum)
		}
	}
	return fieldOf(f.Wide/across, f.High/down, sums...)
}

// plainMeans searches the greatest whole number that is not above the mean of each block.
func plainMeans(f impl.Field, across int, down int) impl.Field {
	made := plainSums(f, across, down)
	for i, sum := range made.Cells {
		mean := 9000
		for mean*across*down > sum {
			mean--
		}
		made.Cells[i] = mean
	}
	return made
}

// plainColumn searches the first of a columns whose right side is not before the center of
// column k of c.
func plainColumn(a int, c int, k int) int {
	center := big.NewRat(int64(a*(2*k+1)), int64(2*c))
	i := 0
	for center.Cmp(big.NewRat(int64(i+1), 1)) > 0 {
		i++
	}
	return i
}

func plainNearest(f impl.Field, wide int, high int) impl.Field {
	cells := []int{}
	for y := range high {
		for x := range wide {
			cells = append(cells, f.Cells[plainColumn(f.High, high, y)*f.Wide+plainColumn(f.Wide, wide, x)])
		}
	}
	return fieldOf(wide, high, cells...)
}

func plainTotal(f impl.Field) int {
	total := 0
	for _, cell := range f.Cells {
		if cell != gone {
			total += cell
		}
	}
	return total
}

// fullField has random values of at most one size.
func fullField(random *rand.Rand, wide int, high int, size int) impl.Field {
	return sparseField(random, wide, high, size, 0)
}

// everyShape calls a function with all shapes of fields.
func everyShape(call func(wide int, high int)) {
	for wide := 1; wide <= 8; wide++ {
		for high := 1; high <= 8; high++ {
			call(wide, high)
		}
	}
}

// badSides are not the side of a field.
func badSides() []int {
	return append(farNumbers(), 0, -1, 9, -8, 10, 16, 64, 256, 257, gone)
}

// expectMade fails unless a call gave a field where there is one, and no field where there is
// none.
func expectMade(t *testing.T, what string, got impl.Field, ok bool, want impl.Field, is bool) {
	t.Helper()
	if !is {
		expectNoField(t, what, got, ok)
		return
	}
	expectField(t, what, got, ok, want)
}

// expectKept fails unless two fields have the same total.
func expectKept(t *testing.T, what string, f impl.Field, g impl.Field) {
	t.Helper()
	if plainTotal(f) != plainTotal(g) {
		t.Errorf("%s: the total of %v is not that of %v", what, g, f)
	}
	if same, ok := impl.SameTotal(f, g); !ok || !same {
		t.Errorf("%s: SameTotal(%v, %v) = %v, %v", what, f, g, same, ok)
	}
}

func TestOverlapsOfAllColumns(t *testing.T) {
	everyShape(func(a int, c int) {
		for i := range a {
			sum := 0
			for k := range c {
				units, ok := impl.OverlapUnits(a, c, i, k)
				if !ok || units != plainOverlap(a, c, i, k) {
					t.Errorf("OverlapUnits(%d, %d, %d, %d) = %d, %v", a, c, i, k, units, ok)
				}
				other, ok := impl.OverlapUnits(c, a, k, i)
				if !ok || other != units {
					t.Errorf("OverlapUnits(%d, %d, %d, %d) = %d, %v, not %d", c, a, k, i, other, ok, units)
				}
				sum += units
			}
			if sum != c {
				t.Errorf("column %d of %d has %d of its %d units", i, a, sum, c)
			}
		}
	})
}

func TestOverlapsByHand(t *testing.T) {
	for _, c := range []struct{ a, c, i, k, want int }{
		{1, 1, 0, 0, 1}, {8, 8, 0, 0, 8}, {8, 8, 7, 7, 8}, {8, 8, 0, 7, 0}, {8, 8, 7, 0, 0}, {8, 8, 3, 4, 0}, {8, 1, 7, 0, 1}, {1, 8, 0, 7, 1}, {8, 1, 0, 0, 1}, {1, 8, 0, 0, 1},
		{2, 3, 0, 0, 2}, {2, 3, 0, 1, 1}, {2, 3, 0, 2, 0}, {2, 3, 1, 0, 0}, {2, 3, 1, 1, 1}, {2, 3, 1, 2, 2},
		{4, 2, 0, 0, 2}, {4, 2, 1, 0, 2}, {4, 2, 2, 0, 0}, {4, 2, 1, 1, 0}, {4, 2, 3, 1, 2},
		{3, 8, 1, 2, 1}, {3, 8, 1, 3, 3}, {3, 8, 1, 4, 3}, {3, 8, 1, 5, 1}, {3, 8, 1, 6, 0}, {3, 8, 1, 1, 0}, {7, 8, 6, 7, 7}, {7, 8, 6, 6, 1}, {8, 7, 7, 6, 7},
	} {
		if units, ok := impl.OverlapUnits(c.a, c.c, c.i, c.k); !ok || units != c.want {
			t.Errorf("%v: %d, %v", c, units, ok)
		}
	}
}

func expectNoUnits(t *testing.T, a int, c int, i int, k int) {
	t.Helper()
	if units, ok := impl.OverlapUnits(a, c, i, k); ok || units != 0 {
		t.Errorf("OverlapUnits(%d, %d, %d, %d) = %d, %v", a, c, i, k, units, ok)
	}
}

func TestOverlapsAtTheLimits(t *testing.T) {
	for a := -1; a <= 10; a++ {
		for c := -1; c <= 10; c++ {
			for i := -2; i <= 10; i++ {
				for k := -2; k <= 10; k++ {
					if a >= 1 && a <= 8 && c >= 1 && c <= 8 && i >= 0 && i < a && k >= 0 && k < c {
						continue
					}
					expectNoUnits(t, a, c, i, k)
				}
			}
		}
	}
	for _, far := range badSides() {
		for _, n := range []int{0, 1, 7, 8, far, far - 1} {
			expectNoUnits(t, far, n, 0, 0)
			expectNoUnits(t, n, far, 0, 0)
			expectNoUnits(t, far, n, far-1, 0)
			expectNoUnits(t, n, far, 0, far-1)
		}
		for _, at := range append(farNumbers(), -1, 8, 9) {
			expectNoUnits(t, 8, 8, at, 0)
			expectNoUnits(t, 8, 8, 0, at)
			expectNoUnits(t, 8, 8, at, at)
			expectNoUnits(t, far, far, at, at)
		}
	}
}

func expectParts(t *testing.T, value int, weights []int, want []int) {
	t.Helper()
	parts, ok := impl.SplitValue(value, weights)
	if !ok || !slices.Equal(parts, want) {
		t.Errorf("SplitValue(%d, %v) = %v, %v, not %v", value, weights, parts, ok, want)
	}
}

func expectNoParts(t *testing.T, value int, weights []int) {
	t.Helper()
	if parts, ok := impl.SplitValue(value, weights); ok || len(parts) != 0 {
		t.Errorf("SplitValue(%d, %v) = %v, %v", value, weights, parts, ok)
	}
}

// checkSplit also holds that the parts add up, and that each is less than 1 away from its share.
func checkSplit(t *testing.T, value int, weights []int) {
	t.Helper()
	expectParts(t, value, weights, plainSplit(value, weights))
	parts, _ := impl.SplitValue(value, weights)
	total, sum := 0, 0
	for i, part := range parts {
		total += part
		sum += weights[i]
	}
	if total != value {
		t.Errorf("SplitValue(%d, %v) = %v, which is %d", value, weights, parts, total)
	}
	for i, part := range parts {
		if absolute(part*sum-value*weights[i]) >= sum {
			t.Errorf("SplitValue(%d, %v) = %v, far from the share of place %d", value, weights, parts, i)
		}
	}
}

func TestSplitByHand(t *testing.T) {
	for _, c := range []struct {
		value   int
		weights []int
		want    []int
	}{
		{10, []int{1, 1, 1}, []int{4, 3, 3}}, {11, []int{1, 1, 1}, []int{4, 4, 3}}, {12, []int{1, 1, 1}, []int{4, 4, 4}},
		{-10, []int{1, 1, 1}, []int{-3, -3, -4}}, {-11, []int{1, 1, 1}, []int{-3, -4, -4}}, {-12, []int{1, 1, 1}, []int{-4, -4, -4}},
		{1, []int{1, 1, 1, 1}, []int{1, 0, 0, 0}}, {-1, []int{1, 1, 1, 1}, []int{0, 0, 0, -1}}, {1, []int{0, 1, 0, 1}, []int{0, 1, 0, 0}}, {-1, []int{1, 0, 1, 0}, []int{0, 0, -1, 0}},
		{-7, []int{1, 0, 2}, []int{-2, 0, -5}}, {7, []int{1, 0, 2}, []int{2, 0, 5}}, {7, []int{2, 0, 1}, []int{5, 0, 2}}, {-7, []int{2, 0, 1}, []int{-5, 0, -2}},
		{1, []int{1, 2}, []int{0, 1}}, {1, []int{2, 1}, []int{1, 0}}, {-1, []int{1, 2}, []int{0, -1}}, {-1, []int{2, 1}, []int{-1, 0}},
		{5, []int{1, 2, 3}, []int{1, 2, 2}}, {-5, []int{1, 2, 3}, []int{-1, -2, -2}}, {4, []int{1, 2, 3}, []int{1, 1, 2}}, {-4, []int{1, 2, 3}, []int{-1, -1, -2}},
		{2, []int{1, 1, 2, 2}, []int{0, 0, 1, 1}}, {3, []int{1, 1, 2, 2}, []int{1, 0, 1, 1}}, {-3, []int{1, 1, 2, 2}, []int{0, -1, -1, -1}},
		{0, []int{1}, []int{0}}, {0, []int{3, 0, 64}, []int{0, 0, 0}}, {-9, []int{64}, []int{-9}}, {9000, []int{1}, []int{9000}}, {-9000, []int{64}, []int{-9000}},
		{9000, []int{0, 64, 0}, []int{0, 9000, 0}}, {-9000, []int{0, 0, 1}, []int{0, 0, -9000}}, {9000, []int{64, 1}, []int{8862, 138}}, {-9000, []int{64, 1}, []int{-8862, -138}},
		{8999, []int{64, 64}, []int{4500, 4499}}, {-8999, []int{64, 64}, []int{-4499, -4500}}, {9000, filled(64, 64), append(filled(40, 141), filled(24, 140)...)},
		{-9000, filled(64, 64), append(filled(24, -140), filled(40, -141)...)}, {63, filled(64, 1), append(filled(63, 1), 0)}, {-63, filled(64, 1), append([]int{0}, filled(63, -1)...)},
		{64, filled(64, 1), filled(64, 1)}, {1, append(filled(63, 0), 1), append(filled(63, 0), 1)}, {-1, filled(64, 64), append(filled(63, 0), -1)},
	} {
		expectParts(t, c.value, c.weights, c.want)
		checkSplit(t, c.value, c.weights)
	}
}

// weightsOf returns all lists of a length of the weights 0..most, without the first one, in
// which all are 0.
func weightsOf(length int, most int) [][]int {
	lists := [][]int{{}}
	for range length {
		longer := [][]int{}
		for _, list := range lists {
			for weight := range most + 1 {
				longer = append(longer, append(slices.Clone(list), weight))
			}
		}
		lists = longer
	}
	return lists[1:]
}

func TestSplitsOfSmallValues(t *testing.T) {
	for _, size := range []struct{ length, most int }{{1, 64}, {2, 8}, {3, 4}, {4, 3}, {5, 2}, {6, 1}} {
		for _, weights := range weightsOf(size.length, size.most) {
			for value := -14; value <= 14; value++ {
				checkSplit(t, value, weights)
			}
		}
	}
}

func TestSplitsOfEveryValue(t *testing.T) {
	for _, weights := range [][]int{{64}, {1, 1}, {1, 2, 0, 4}, {64, 63, 1, 0, 7}, {3, 3, 3, 3, 3, 3, 3}, filled(64, 1)} {
		for value := -9000; value <= 9000; value++ {
			checkSplit(t, value, weights)
		}
	}
}

func TestSplitsOfEveryNumberOfPlaces(t *testing.T) {
	random := rand.New(rand.NewPCG(7, 1))
	for places := 1; places <= 64; places++ {
		for range 60 {
			most := []int{1, 2, 5, 64}[random.IntN(4)]
			weights := filled(places, 0)
			for i := range weights {
				weights[i] = random.IntN(most + 1)
			}
			weights[random.IntN(places)] = most
			for _, value := range []int{0, 1, -1, 9000, -9000, random.IntN(18001) - 9000, random.IntN(129) - 64} {
				checkSplit(t, value, weights)
			}
		}
		for _, weight := range []int{1, 2, 63, 64} {
			for value := -places - 1; value <= places+1; value++ {
				checkSplit(t, value, filled(places, weight))
			}
		}
	}
}

func TestSplitsBeyondTheLimits(t *testing.T) {
	for _, value := range []int{0, 1, -1, 9000, -9000} {
		for _, weights := range [][]int{{}, nil, {0}, {0, 0}, filled(64, 0), filled(65, 0), filled(65, 1), filled(65, 64), append(filled(64, 0), 1), filled(100, 1), filled(128, 1)} {
			expectNoParts(t, value, weights)
		}
		for _, bad := range append(farNumbers(), badCells()...) {
			for _, weights := range [][]int{{bad}, {bad, 1}, {1, bad}, {64, 1, bad}, {bad, 0, 0}, {bad, bad, 1}, {bad, -bad, 1}, {bad, 5 - bad}, append(filled(63, 1), bad), append(filled(64, 1), bad)} {
				expectNoParts(t, value, weights)
			}
		}
		for _, weights := range [][]int{{-1}, {65}, {-1, 2}, {2, -1}, {65, 0}, {0, 65}, {64, 65}, {-1, 1}, {-1, 0}, {gone}, append(filled(63, 1), 65), append(filled(63, 1), -1)} {
			expectNoParts(t, value, weights)
		}
		for _, weights := range [][]int{{64}, {0, 64}, {64, 0}, {1, 0}, append(filled(63, 0), 64), filled(64, 1), filled(64, 64)} {
			checkSplit(t, value, weights)
		}
	}
	for _, value := range append(append(farNumbers(), badCells()...), 9001, -9001, gone) {
		for _, weights := range [][]int{{1}, {64}, {1, 1}, {0, 64}, filled(64, 64), {}, {0}, {-1}, {65}} {
			expectNoParts(t, value, weights)
		}
	}
}

// checkRegrid holds both ways of regridding against the tests' own, and the total.
func checkRegrid(t *testing.T, f impl.Field, wide int, high int) {
	t.Helper()
	to := strconv.Itoa(wide) + " by " + strconv.Itoa(high)
	want, is := plainRegrid(f, wide, high)
	g, ok := impl.RegridTotal(f, wide, high)
	expectMade(t, "RegridTotal to "+to, g, ok, want, is)
	if ok {
		expectKept(t, "RegridTotal to "+to, f, g)
	}
	g, ok = impl.RegridNearest(f, wide, high)
	expectField(t, "RegridNearest to "+to, g, ok, plainNearest(f, wide, high))
}

func TestRegridEveryShapeToEveryShape(t *testing.T) {
	random := rand.New(rand.NewPCG(7, 2))
	everyShape(func(wide int, high int) {
		fields := []impl.Field{}
		for _, size := range []int{3, 140, 9000} {
			fields = append(fields, fullField(random, wide, high, size))
		}
		everyShape(func(toWide int, toHigh int) {
			for _, f := range fields {
				checkRegrid(t, f, toWide, toHigh)
			}
		})
		own, ok := impl.RegridTotal(fields[2], wide, high)
		expectField(t, "RegridTotal to the own shape", own, ok, fields[2])
		cell, ok := impl.RegridTotal(fields[1], 1, 1)
		expectField(t, "RegridTotal to one cell", cell, ok, fieldOf(1, 1, plainTotal(fields[1])))
	})
}

func TestRegridByHand(t *testing.T) {
	for _, c := range []struct {
		field impl.Field
		want  impl.Field
	}{
		{fieldOf(2, 1, 6, 9), fieldOf(3, 1, 4, 5, 6)}, {fieldOf(1, 2, 6, 9), fieldOf(1, 3, 4, 5, 6)}, {fieldOf(2, 1, -6, -9), fieldOf(3, 1, -4, -5, -6)},
		{fieldOf(2, 1, 7, -7), fieldOf(3, 1, 5, 0, -5)}, {fieldOf(2, 1, -7, 7), fieldOf(3, 1, -5, 0, 5)}, {fieldOf(2, 1, 1, 1), fieldOf(3, 1, 1, 0, 1)}, {fieldOf(2, 1, -1, -1), fieldOf(3, 1, -1, 0, -1)},
		{fieldOf(3, 1, 5, 5, 5), fieldOf(2, 1, 8, 7)}, {fieldOf(3, 1, -5, -5, -5), fieldOf(2, 1, -7, -8)}, {fieldOf(3, 1, 4, -3, 2), fieldOf(2, 1, 3, 0)}, {fieldOf(1, 3, 4, -3, 2), fieldOf(1, 2, 3, 0)},
		{fieldOf(1, 1, 10), fieldOf(2, 2, 3, 3, 2, 2)}, {fieldOf(1, 1, -10), fieldOf(2, 2, -2, -2, -3, -3)}, {fieldOf(1, 1, 10), fieldOf(1, 4, 3, 3, 2, 2)}, {fieldOf(1, 1, -10), fieldOf(4, 1, -2, -2, -3, -3)},
		{fieldOf(2, 2, 1, 2, 3, 4), fieldOf(1, 1, 10)}, {fieldOf(2, 2, 1, -2, 3, -4), fieldOf(1, 1, -2)}, {fieldOf(2, 2, 1, 2, 3, 4), fieldOf(1, 2, 3, 7)}, {fieldOf(2, 2, 1, 2, 3, 4), fieldOf(2, 1, 4, 6)},
		{fieldOf(3, 2, 1, 2, 3, 4, 5, 6), fieldOf(1, 2, 6, 15)}, {fieldOf(3, 2, 1, 2, 3, 4, 5, 6), fieldOf(3, 1, 5, 7, 9)},
		{fieldOf(2, 2, 9, 9, 9, -9), fieldOf(3, 3, 4, 4, 4, 4, 2, 0, 4, 0, -4)}, {fieldOf(2, 2, 10, 0, 0, 0), fieldOf(3, 3, 5, 2, 0, 2, 1, 0, 0, 0, 0)},
		{fieldOf(2, 2, -10, 0, 0, 0), fieldOf(3, 3, -5, -2, 0, -2, -1, 0, 0, 0, 0)},
	} {
		g, ok := impl.RegridTotal(c.field, c.want.Wide, c.want.High)
		expectField(t, "RegridTotal", g, ok, c.want)
		checkRegrid(t, c.field, c.want.Wide, c.want.High)
	}
}

func TestRegridKeepsTheTotal(t *testing.T) {
	random := rand.New(rand.NewPCG(7, 3))
	for range 3000 {
		f := fullField(random, random.IntN(8)+1, random.IntN(8)+1, []int{1, 5, 140, 9000}[random.IntN(4)])
		checkRegrid(t, f, random.IntN(8)+1, random.IntN(8)+1)
		across, down := random.IntN(f.Wide)+1, random.IntN(f.High)+1
		checkBlocks(t, f, across, down)
	}
}

func TestRegridAtTheLimitsOfSides(t *testing.T) {
	for _, f := range []impl.Field{fieldOf(1, 1, 5), fieldOf(3, 2, 1, -2, 3, -4, 5, -6), fieldOf(8, 8, filled(64, -9)...)} {
		for wide := -9; wide <= 17; wide++ {
			for high := -9; high <= 17; high++ {
				if wide >= 1 && wide <= 8 && high >= 1 && high <= 8 {
					checkRegrid(t, f, wide, high)
					continue
				}
				expectNoRegrid(t, "a bad shape", f, wide, high)
			}
		}
		for _, bad := range badSides() {
			for _, side := range []int{1, 2, 8, 0, -1, 9, bad} {
				expectNoRegrid(t, "a bad width", f, bad, side)
				expectNoRegrid(t, "a bad height", f, side, bad)
			}
		}
	}
}

func expectNoRegrid(t *testing.T, what string, f impl.Field, wide int, high int) {
	t.Helper()
	g, ok := impl.RegridTotal(f, wide, high)
	expectNoField(t, "RegridTotal with "+what, g, ok)
	g, ok = impl.RegridNearest(f, wide, high)
	expectNoField(t, "RegridNearest with "+what, g, ok)
}

// checkBlocks holds sums and means of blocks against the tests' own, and the total.
func checkBlocks(t *testing.T, f impl.Field, across int, down int) {
	t.Helper()
	of := strconv.Itoa(across) + " by " + strconv.Itoa(down)
	if across < 1 || down < 1 || f.Wide%across != 0 || f.High%down != 0 {
		expectNoBlocks(t, of, f, across, down)
		return
	}
	want := plainSums(f, across, down)
	g, ok := impl.CoarsenSum(f, across, down)
	expectMade(t, "CoarsenSum of "+of, g, ok, want, allInRange(want.Cells))
	if ok {
		expectKept(t, "CoarsenSum of "+of, f, g)
	}
	g, ok = impl.CoarsenMean(f, across, down)
	expectField(t, "CoarsenMean of "+of, g, ok, plainMeans(f, across, down))
}

func expectNoBlocks(t *testing.T, what string, f impl.Field, across int, down int) {
	t.Helper()
	g, ok := impl.CoarsenSum(f, across, down)
	expectNoField(t, "CoarsenSum of "+what, g, ok)
	g, ok = impl.CoarsenMean(f, across, down)
	expectNoField(t, "CoarsenMean of "+what, g, ok)
}

func TestBlocksOfEveryShape(t *testing.T) {
	random := rand.New(rand.NewPCG(7, 4))
	everyShape(func(wide int, high int) {
		for _, size := range []int{1, 20, 140, 9000} {
			f := fullField(random, wide, high, size)
			for across := -3; across <= 17; across++ {
				for down := -3; down <= 17; down++ {
					checkBlocks(t, f, across, down)
				}
			}
		}
	})
}

func TestBlocksByHand(t *testing.T) {
	f := fieldOf(4, 2, 1, 2, 3, 4, -5, 6, 7, -9)
	for _, c := range []struct {
		across, down int
		sums, means  impl.Field
	}{
		{1, 1, f, f},
		{2, 2, fieldOf(2, 1, 4, 5), fieldOf(2, 1, 1, 1)},
		{4, 1, fieldOf(1, 2, 10, -1), fieldOf(1, 2, 2, -1)},
		{1, 2, fieldOf(4, 1, -4, 8, 10, -5), fieldOf(4, 1, -2, 4, 5, -3)},
		{2, 1, fieldOf(2, 2, 3, 7, 1, -2), fieldOf(2, 2, 1, 3, 0, -1)},
		{4, 2, fieldOf(1, 1, 9), fieldOf(1, 1, 1)},
	} {
		of := strconv.Itoa(c.across) + " by " + strconv.Itoa(c.down)
		g, ok := impl.CoarsenSum(f, c.across, c.down)
		expectField(t, "CoarsenSum of "+of, g, ok, c.sums)
		expectKept(t, "CoarsenSum of "+of, f, g)
		g, ok = impl.CoarsenMean(f, c.across, c.down)
		expectField(t, "CoarsenMean of "+of, g, ok, c.means)
	}
}

func TestBlocksThatDoNotDivide(t *testing.T) {
	for _, f := range []impl.Field{fieldOf(1, 1, 5), fieldOf(6, 4, filled(24, -3)...), fieldOf(8, 8, filled(64, 1)...), fieldOf(7, 5, filled(35, 0)...)} {
		for _, bad := range append(badSides(), f.Wide*2, f.High*2, 64) {
			if bad >= 1 && f.Wide%bad == 0 || bad >= 1 && f.High%bad == 0 {
				t.Error(bad, "divides", f)
			}
			for _, good := range []int{1, f.Wide, f.High, bad, -bad} {
				expectNoBlocks(t, "a bad number across", f, bad, good)
				expectNoBlocks(t, "a bad number down", f, good, bad)
			}
		}
		for _, less := range []int{-f.Wide, -f.High, -1, 0} {
			expectNoBlocks(t, "less than 1 across", f, less, 1)
			expectNoBlocks(t, "less than 1 down", f, 1, less)
			expectNoBlocks(t, "less than 1 twice", f, less, less)
		}
	}
	expectNoBlocks(t, "a height across", fieldOf(4, 3, filled(12, 1)...), 3, 1)
	expectNoBlocks(t, "a width down", fieldOf(4, 3, filled(12, 1)...), 1, 4)
	expectNoBlocks(t, "the cells across", fieldOf(2, 2, 1, 2, 3, 4), 4, 1)
}

func TestMeansOfBlocksAreRoundedDown(t *testing.T) {
	for size := 1; size <= 8; size++ {
		for sum := -3 * size; sum <= 3*size; sum++ {
			mean := -3
			for (mean+1)*size <= sum {
				mean++
			}
			// The sum is that of one cell, or of a cell at a limit and another one.
			for _, first := range []int{sum, 9000, -9000} {
				cells := filled(size, 0)
				cells[size-1] = sum
				if size > 1 {
					cells[0], cells[size-1] = first, sum-first
				}
				if !allInRange(cells) {
					continue
				}
				g, ok := impl.CoarsenMean(fieldOf(size, 1, cells...), size, 1)
				expectField(t, "CoarsenMean across", g, ok, fieldOf(1, 1, mean))
				g, ok = impl.CoarsenMean(fieldOf(1, size, cells...), 1, size)
				expectField(t, "CoarsenMean down", g, ok, fieldOf(1, 1, mean))
			}
		}
	}
	for n := -9000; n < 9000; n++ {
		g, ok := impl.CoarsenMean(fieldOf(2, 1, n, n+1), 2, 1)
		expectField(t, "CoarsenMean", g, ok, fieldOf(1, 1, n))
	}
}

// joined are cells whose sum is at a limit, beyond one, or the number of Missing.
func joined() [][]int {
	return [][]int{
		{9000, 0}, {8999, 1}, {9000, 1}, {9000, 9000}, {4500, 4500}, {4501, 4500}, {5000, 4999}, {1000, 8999}, {-9000, 0}, {-8999, -1}, {-9000, -1}, {-9000, -9000}, {-4500, -4501},
		{-9000, -999}, {-5000, -4999}, {-999, -9000}, {-9000, -998}, {-9000, -1000}, {9000, 9000, -9000}, {-9000, -9000, 9000}, {9000, 9000, -8999}, {-9000, -9000, 8999},
		{9000, 9000, -9000, -9000}, {-3333, -3333, -3333}, {-2500, -2500, -2500, -2499}, {-2500, -2500, -2500, -1500}, {9000, 9000, 9000, 9000, -9000, -9000, -9000, -9000}, filled(8, -9000), filled(8, 9000),
		{-2000, -2000, -2000, -2000, -1999}, {9000, -9000, 9000, -9000, -9000, -999}, {3333, 3333, 2334}, {3333, 3333, 2335}, {-3333, -3333, -2334}, {-3333, -3333, -2335},
	}
}

func TestSumsOutOfRange(t *testing.T) {
	for _, cells := range joined() {
		size := len(cells)
		row, column := fieldOf(size, 1, cells...), fieldOf(1, size, cells...)
		sum := plainTotal(row)
		want, is := fieldOf(1, 1, sum), allInRange([]int{sum})
		for _, f := range []impl.Field{row, column} {
			g, ok := impl.RegridTotal(f, 1, 1)
			expectMade(t, "RegridTotal", g, ok, want, is)
			g, ok = impl.CoarsenSum(f, f.Wide, f.High)
			expectMade(t, "CoarsenSum", g, ok, want, is)
			checkBlocks(t, f, f.Wide, f.High)
		}
		// The sum stands in the last cell, behind others that are in range.
		two := fieldOf(size, 2, append(filled(size, 1), cells...)...)
		g, ok := impl.RegridTotal(two, 1, 2)
		expectMade(t, "RegridTotal to two rows", g, ok, fieldOf(1, 2, size, sum), is)
		g, ok = impl.CoarsenSum(two, size, 1)
		expectMade(t, "CoarsenSum of two rows", g, ok, fieldOf(1, 2, size, sum), is)
		checkBlocks(t, two, size, 1)
	}
	full := fieldOf(8, 8, filled(64, -9000)...)
	g, ok := impl.CoarsenMean(full, 8, 8)
	expectField(t, "CoarsenMean", g, ok, fieldOf(1, 1, -9000))
	g, ok = impl.RegridTotal(full, 7, 8)
	expectNoField(t, "RegridTotal", g, ok)
}

func TestColumnsOfCenters(t *testing.T) {
	// The centers of as many cells as the row is long; equal numbers are those of one cell of it.
	for _, c := range []struct {
		wide int
		want []int
	}{
		{1, []int{1, 1}}, {1, filled(8, 1)}, {2, []int{1}}, {3, []int{2}}, {4, []int{2}}, {8, []int{4}}, {7, []int{4}}, {4, []int{1, 3}}, {8, []int{2, 6}}, {6, []int{2, 5}},
		{3, []int{1, 3}}, {5, []int{2, 4}}, {2, []int{1, 1, 2}}, {2, []int{1, 1, 2, 2}}, {3, []int{1, 2, 2, 3}}, {4, []int{1, 2, 4}}, {8, []int{1, 3, 5, 7}}, {8, []int{2, 4, 7}},
		{2, []int{1, 1, 1, 2, 2}}, {6, []int{1, 3, 4, 6}}, {8, []int{1, 2, 3, 4, 5, 6, 7, 8}}, {5, []int{1, 1, 2, 3, 3, 4, 5, 5}}, {7, []int{1, 2, 3, 4, 4, 5, 6, 7}},
	} {
		size := len(c.want)
		g, ok := impl.RegridNearest(countingField(c.wide, 1), size, 1)
		expectField(t, "RegridNearest of a row", g, ok, fieldOf(size, 1, c.want...))
		g, ok = impl.RegridNearest(countingField(1, c.wide), 1, size)
		expectField(t, "RegridNearest of a column", g, ok, fieldOf(1, size, c.want...))
	}
	g, ok := impl.RegridNearest(countingField(4, 4), 2, 2)
	expectField(t, "between four cells", g, ok, fieldOf(2, 2, 1, 3, 9, 11))
	g, ok = impl.RegridNearest(countingField(2, 3), 1, 1)
	expectField(t, "between two cells of a row", g, ok, fieldOf(1, 1, 3))
	g, ok = impl.RegridNearest(countingField(3, 2), 1, 1)
	expectField(t, "between two cells of a column", g, ok, fieldOf(1, 1, 2))
	g, ok = impl.RegridNearest(countingField(3, 3), 1, 1)
	expectField(t, "within a cell", g, ok, fieldOf(1, 1, 5))
}

func TestNearestOfMissingCells(t *testing.T) {
	random := rand.New(rand.NewPCG(7, 5))
	everyShape(func(wide int, high int) {
		for _, share := range []int{10, 50, 100} {
			f := sparseField(random, wide, high, 9000, share)
			own, ok := impl.RegridNearest(f, wide, high)
			expectField(t, "RegridNearest to the own shape", own, ok, f)
			everyShape(func(toWide int, toHigh int) {
				g, ok := impl.RegridNearest(f, toWide, toHigh)
				expectField(t, "RegridNearest", g, ok, plainNearest(f, toWide, toHigh))
			})
		}
	})
}

func expectSame(t *testing.T, a impl.Field, b impl.Field, want bool) {
	t.Helper()
	if same, ok := impl.SameTotal(a, b); !ok || same != want {
		t.Errorf("SameTotal(%v, %v) = %v, %v", a, b, same, ok)
	}
	if same, ok := impl.SameTotal(b, a); !ok || same != want {
		t.Errorf("SameTotal(%v, %v) = %v, %v", b, a, same, ok)
	}
}

func TestSameTotal(t *testing.T) {
	f := fieldOf(3, 2, 1, -7, gone, 5, 0, -90)
	expectSame(t, f, f, true)
	expectSame(t, f, fieldOf(1, 1, -91), true)
	expectSame(t, f, fieldOf(1, 1, 91), false)
	expectSame(t, f, fieldOf(2, 3, -90, gone, 0, 5, -7, 1), true)
	expectSame(t, f, fieldOf(3, 2, 1, -7, 0, 5, 0, -90), true)
	expectSame(t, f, fieldOf(3, 2, 1, -7, gone, 5, 1, -90), false)
	expectSame(t, f, fieldOf(3, 2, 1, -7, gone, 5, 0, gone), false)
	expectSame(t, fieldOf(1, 1, gone), fieldOf(8, 8, filled(64, gone)...), true)
	expectSame(t, fieldOf(1, 1, gone), fieldOf(2, 1, 5, -5), true)
	expectSame(t, fieldOf(1, 1, gone), fieldOf(1, 1, 1), false)
	expectSame(t, fieldOf(8, 8, filled(64, 9000)...), fieldOf(8, 8, filled(64, -9000)...), false)
	expectSame(t, fieldOf(8, 8, filled(64, -9000)...), fieldOf(8, 8, filled(64, -9000)...), true)
	expectSame(t, fieldOf(8, 8, filled(64, -9000)...), fieldOf(8, 8, append(filled(63, -9000), -8999)...), false)
	expectSame(t, fieldOf(2, 1, -5000, -4999), fieldOf(3, 1, -3333, -3333, -3333), true)
	expectSame(t, fieldOf(2, 1, -5000, -4999), fieldOf(1, 1, gone), false)
}

func TestSameTotalOfAllPairs(t *testing.T) {
	random := rand.New(rand.NewPCG(7, 6))
	fields := []impl.Field{}
	for range 60 {
		fields = append(fields, sparseField(random, random.IntN(3)+1, random.IntN(3)+1, random.IntN(4)+1, random.IntN(60)))
	}
	for _, w := range writtenFields() {
		fields = append(fields, w.field)
	}
	for _, a := range fields {
		for _, b := range fields {
			expectSame(t, a, b, plainTotal(a) == plainTotal(b))
		}
	}
}

func TestRegridRejectsMissingCells(t *testing.T) {
	random := rand.New(rand.NewPCG(7, 7))
	everyShape(func(wide int, high int) {
		f := fullField(random, wide, high, 20)
		for at := range f.Cells {
			hole := one(f, at, gone)
			for _, side := range []int{1, 2, 8, wide, high} {
				g, ok := impl.RegridTotal(hole, side, side)
				expectNoField(t, "RegridTotal of a missing cell", g, ok)
				g, ok = impl.RegridTotal(hole, wide, high)
				expectNoField(t, "RegridTotal of a missing cell", g, ok)
			}
			for _, across := range []int{1, wide} {
				for _, down := range []int{1, high} {
					expectNoBlocks(t, "a missing cell", hole, across, down)
				}
			}
			g, ok := impl.RegridNearest(hole, wide, high)
			expectField(t, "RegridNearest", g, ok, hole)
			expectSame(t, hole, one(f, at, 0), true)
		}
	})
}

func TestRegridRejectsInvalidFields(t *testing.T) {
	for name, bad := range invalidFields() {
		for _, side := range []int{1, 2, 3, 8, 0, -1, 9} {
			expectNoRegrid(t, name, bad, side, 1)
			expectNoRegrid(t, name, bad, 1, side)
			expectNoRegrid(t, name, bad, side, side)
			expectNoBlocks(t, name, bad, side, 1)
			expectNoBlocks(t, name, bad, 1, side)
			expectNoBlocks(t, name, bad, side, side)
		}
		expectNoRegrid(t, name, bad, bad.Wide, bad.High)
		expectNoBlocks(t, name, bad, bad.Wide, bad.High)
		for _, w := range append(writtenFields(), writtenField{field: bad}) {
			if same, ok := impl.SameTotal(bad, w.field); ok || same {
				t.Errorf("SameTotal of %s first = %v, %v", name, same, ok)
			}
			if same, ok := impl.SameTotal(w.field, bad); ok || same {
				t.Errorf("SameTotal of %s second = %v, %v", name, same, ok)
			}
		}
	}
}

// regridCalls are the functions of chapter 7 that return fields, with numbers that suit a field
// of 6 by 4 cells.
func regridCalls() []algebraCall {
	calls := []algebraCall{}
	for _, shape := range [][2]int{{6, 4}, {1, 1}, {3, 2}, {8, 8}, {5, 7}, {1, 4}, {6, 1}} {
		calls = append(calls,
			algebraCall{"RegridTotal", 1, func(f []impl.Field) (impl.Field, bool) { return impl.RegridTotal(f[0], shape[0], shape[1]) }},
			algebraCall{"RegridNearest", 1, func(f []impl.Field) (impl.Field, bool) { return impl.RegridNearest(f[0], shape[0], shape[1]) }})
	}
	for _, block := range [][2]int{{1, 1}, {6, 4}, {1, 4}, {6, 1}, {2, 2}, {3, 1}} {
		calls = append(calls,
			algebraCall{"CoarsenSum", 1, func(f []impl.Field) (impl.Field, bool) { return impl.CoarsenSum(f[0], block[0], block[1]) }},
			algebraCall{"CoarsenMean", 1, func(f []impl.Field) (impl.Field, bool) { return impl.CoarsenMean(f[0], block[0], block[1]) }})
	}
	return calls
}

func TestRegridAndMemory(t *testing.T) {
	random := rand.New(rand.NewPCG(7, 8))
	for _, call := range regridCalls() {
		for _, f := range []impl.Field{countingField(6, 4), fieldOf(6, 4, filled(24, 0)...), fullField(random, 6, 4, 300), fullField(random, 6, 4, 300)} {
			checkMemory(t, call, []impl.Field{f})
		}
	}
}

func TestRegridLeavesItsArguments(t *testing.T) {
	fields := []impl.Field{countingField(6, 4), fieldOf(6, 4, filled(24, 9000)...)}
	for _, w := range writtenFields() {
		fields = append(fields, w.field)
	}
	for _, bad := range invalidFields() {
		fields = append(fields, bad)
	}
	for _, f := range fields {
		f, room := roomy(f)
		before := slices.Clone(room)
		for _, call := range regridCalls() {
			call.run([]impl.Field{f})
		}
		impl.SameTotal(f, f)
		if !slices.Equal(room, before) {
			t.Error("modified:", room, "from", before)
		}
	}
}

func TestSplitAndMemory(t *testing.T) {
	for _, weights := range [][]int{{1}, {1, 2, 0, 4}, filled(64, 1), filled(64, 64), {}, {0}, {65}, {1, -1}, filled(65, 1)} {
		for _, value := range []int{0, 7, -7, 9000, -9000, 9001} {
			room := append(slices.Clone(weights), 1, -5, 70)
			before := slices.Clone(room)
			parts, ok := impl.SplitValue(value, room[:len(weights)])
			second, okSecond := impl.SplitValue(value, room[:len(weights)])
			if ok != okSecond || !slices.Equal(parts, second) || len(parts) > len(weights) {
				t.Errorf("SplitValue(%d, %v) = %v and then %v", value, weights, parts, second)
			}
			want := slices.Clone(parts)
			if shareElements(parts, second) || shareElements(parts, room) || shareElements(second, room) {
				t.Errorf("SplitValue(%d, %v) shares memory", value, weights)
			}
			for i := range second {
				second[i] = 77
			}
			if !slices.Equal(room, before) {
				t.Errorf("the weights are modified: %v from %v", room, before)
			}
			for i := range room {
				room[i] = 88
			}
			if !slices.Equal(parts, want) {
				t.Errorf("the parts %v change with the weights", want)
			}
		}
	}
}

func TestRegridDoesNotReadBehindTheLength(t *testing.T) {
	cells := []int{1, 2, 3, 4, 9000, gone}
	short := fieldOf(2, 2, cells[:4]...)
	for side := 1; side <= 8; side++ {
		checkRegrid(t, short, side, 9-side)
	}
	for _, bad := range []impl.Field{fieldOf(2, 2, cells[:3]...), fieldOf(3, 2, cells[:4]...)} {
		expectNoRegrid(t, "a field completed from behind its length", bad, bad.Wide, bad.High)
		expectNoBlocks(t, "a field completed from behind its length", bad, 1, 1)
		if same, ok := impl.SameTotal(bad, bad); ok || same {
			t.Errorf("SameTotal(%v) = %v, %v", bad, same, ok)
		}
	}
	weights := []int{0, 0, 1, 1}
	expectNoParts(t, 5, weights[:2])
	expectNoParts(t, 5, weights[:0])
	expectParts(t, 5, weights[:3], []int{0, 0, 5})
}
