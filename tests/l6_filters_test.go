package tests

import (
	"math"
	"math/rand/v2"
	"slices"
	"strconv"
	"testing"

	"loop.example/g00889/impl"
)

// filterCall is a filter of chapter 6 that makes a value of the values of a neighborhood, and
// the same by a rule of the tests, which gets at least one value, in ascending order.
type filterCall struct {
	name string
	run  func(f impl.Field, r int) (impl.Field, bool)
	rule func(sorted []int) int
}

func filterCalls(thresholds ...int) []filterCall {
	calls := []filterCall{
		{"MaximumFilter", impl.MaximumFilter, func(sorted []int) int { return sorted[len(sorted)-1] }},
		{"MinimumFilter", impl.MinimumFilter, func(sorted []int) int { return sorted[0] }},
		{"MeanFilter", impl.MeanFilter, plainMean},
		{"MedianFilter", impl.MedianFilter, plainMedian},
	}
	for _, threshold := range thresholds {
		calls = append(calls, filterCall{
			"CoverageFilter from " + strconv.Itoa(threshold),
			func(f impl.Field, r int) (impl.Field, bool) { return impl.CoverageFilter(f, r, threshold) },
			func(sorted []int) int { return plainCoverage(sorted, threshold) },
		})
	}
	return calls
}

// nearest searches the whole number that isNearest accepts.
func nearest(num int, den int) int {
	for y := num/den - 1; y <= num/den+1; y++ {
		if isNearest(num, den, y) {
			return y
		}
	}
	panic("no nearest number")
}

func plainMean(sorted []int) int {
	sum := 0
	for _, value := range sorted {
		sum += value
	}
	return nearest(sum, len(sorted))
}

// plainMedian takes away the outermost pairs until one or two values are left.
func plainMedian(sorted []int) int {
	for len(sorted) > 2 {
		sorted = sorted[1 : len(sorted)-1]
	}
	return sorted[0]
}

func plainCoverage(sorted []int, threshold int) int {
	below, _ := slices.BinarySearch(sorted, threshold)
	return nearest(100*(len(sorted)-below), len(sorted))
}

// around returns the values of the neighborhood of a cell in ascending order.
func around(f impl.Field, at int, r int) []int {
	values := []int{}
	for i, cell := range f.Cells {
		if cell != gone && absolute(i%f.Wide-at%f.Wide) <= r && absolute(i/f.Wide-at/f.Wide) <= r {
			values = append(values, cell)
		}
	}
	slices.Sort(values)
	return values
}

// plainFilter is a filter to hold the program's results against.
func plainFilter(f impl.Field, r int, rule func(sorted []int) int) impl.Field {
	made := fieldOf(f.Wide, f.High, filled(len(f.Cells), gone)...)
	for i := range f.Cells {
		if values := around(f, i, r); len(values) > 0 {
			made.Cells[i] = rule(values)
		}
	}
	return made
}

func plainFilled(f impl.Field, r int) impl.Field {
	made := plainFilter(f, r, plainMean)
	for i, cell := range f.Cells {
		if cell != gone {
			made.Cells[i] = cell
		}
	}
	return made
}

func plainPeaks(f impl.Field, r int) [][]int {
	peaks := [][]int{}
	for y := range f.High {
		for x := range f.Wide {
			at := y*f.Wide + x
			if f.Cells[at] == gone {
				continue
			}
			others := around(one(f, at, gone), at, r)
			if len(others) == 0 || others[len(others)-1] < f.Cells[at] {
				peaks = append(peaks, []int{x, y})
			}
		}
	}
	return peaks
}

func plainChange(f impl.Field, r int) int {
	greatest := 0
	for i, cell := range f.Cells {
		if cell != gone {
			greatest = max(greatest, absolute(cell-plainMean(around(f, i, r))))
		}
	}
	return greatest
}

func expectPeaks(t *testing.T, what string, got [][]int, ok bool, want [][]int) {
	t.Helper()
	if !ok || !sameLists(got, want) {
		t.Errorf("%s: PeakCells = %v, %v, not %v", what, got, ok, want)
	}
}

func expectChange(t *testing.T, what string, got int, ok bool, want int) {
	t.Helper()
	if !ok || got != want {
		t.Errorf("%s: SmoothChange = %d, %v, not %d", what, got, ok, want)
	}
}

// sparseField has random values of at most one size, and share of 100 cells Missing.
func sparseField(random *rand.Rand, wide int, high int, size int, share int) impl.Field {
	f := fieldOf(wide, high, filled(wide*high, gone)...)
	for i := range f.Cells {
		if random.IntN(100) >= share {
			f.Cells[i] = random.IntN(2*size+1) - size
		}
	}
	return f
}

// checkFilters holds every function of chapter 6 against the tests' own for a field.
func checkFilters(t *testing.T, f impl.Field, r int) {
	t.Helper()
	name := "radius " + strconv.Itoa(r)
	for _, call := range filterCalls(-9000, -1, 0, 1, 9000) {
		g, ok := call.run(f, r)
		expectField(t, call.name+", "+name, g, ok, plainFilter(f, r, call.rule))
	}
	g, ok := impl.FillByMean(f, r)
	expectField(t, "FillByMean, "+name, g, ok, plainFilled(f, r))
	peaks, ok := impl.PeakCells(f, r)
	expectPeaks(t, name, peaks, ok, plainPeaks(f, r))
	change, ok := impl.SmoothChange(f, r)
	expectChange(t, name, change, ok, plainChange(f, r))
	want := f
	for n := range 6 {
		g, ok := impl.RepeatMaximum(f, r, n)
		expectField(t, strconv.Itoa(n)+" times MaximumFilter, "+name, g, ok, want)
		want = plainFilter(want, r, filterCalls()[0].rule)
	}
}

// checkFilterOrder fails unless minimum, median and mean, and maximum are in order at every cell.
func checkFilterOrder(t *testing.T, f impl.Field, r int) {
	t.Helper()
	least, _ := impl.MinimumFilter(f, r)
	most, _ := impl.MaximumFilter(f, r)
	mean, _ := impl.MeanFilter(f, r)
	median, _ := impl.MedianFilter(f, r)
	for _, g := range []impl.Field{least, most, mean, median} {
		if g.Wide != f.Wide || g.High != f.High || len(g.Cells) != len(f.Cells) {
			t.Fatalf("another shape: %v of %v", g, f)
		}
	}
	for i := range f.Cells {
		a, b, c, d := least.Cells[i], median.Cells[i], mean.Cells[i], most.Cells[i]
		if a > b || a > c || b > d || c > d {
			t.Errorf("radius %d: %d, %d, %d, %d at cell %d of %v", r, a, b, c, d, i, f)
		}
		empty := len(around(f, i, r)) == 0
		for _, value := range []int{a, b, c, d} {
			if (value == gone) != empty {
				t.Errorf("radius %d: %d at cell %d of %v", r, value, i, f)
			}
		}
	}
}

func TestLimitOfRadii(t *testing.T) {
	if impl.MaxRadius != 3 {
		t.Error("MaxRadius", impl.MaxRadius)
	}
}

func TestFiltersOfEveryShapeAndRadius(t *testing.T) {
	random := rand.New(rand.NewPCG(6, 1))
	for wide := 1; wide <= 8; wide++ {
		for high := 1; high <= 8; high++ {
			for r := range 4 {
				for _, share := range []int{0, 0, 20, 60, 90, 100} {
					size := []int{1, 2, 9, 9000}[random.IntN(4)]
					f := sparseField(random, wide, high, size, share)
					checkFilters(t, f, r)
					checkFilterOrder(t, f, r)
				}
			}
		}
	}
}

func TestOrderOfFiltersInManyFields(t *testing.T) {
	random := rand.New(rand.NewPCG(6, 2))
	for i := range 6000 {
		size := []int{1, 3, 100, 9000}[random.IntN(4)]
		f := sparseField(random, random.IntN(8)+1, random.IntN(8)+1, size, random.IntN(101))
		checkFilterOrder(t, f, i%4)
	}
	for _, w := range writtenFields() {
		for r := range 4 {
			checkFilters(t, w.field, r)
			checkFilterOrder(t, w.field, r)
		}
	}
}

func TestFiltersByHand(t *testing.T) {
	f := countingField(4, 3)
	for _, c := range []struct {
		name string
		run  func(f impl.Field, r int) (impl.Field, bool)
		want []int
	}{
		{"MaximumFilter", impl.MaximumFilter, []int{6, 7, 8, 8, 10, 11, 12, 12, 10, 11, 12, 12}},
		{"MinimumFilter", impl.MinimumFilter, []int{1, 1, 2, 3, 1, 1, 2, 3, 5, 5, 6, 7}},
		{"MeanFilter", impl.MeanFilter, []int{4, 4, 5, 6, 6, 6, 7, 8, 8, 8, 9, 10}},
		{"MedianFilter", impl.MedianFilter, []int{2, 3, 4, 4, 5, 6, 7, 7, 6, 7, 8, 8}},
	} {
		g, ok := c.run(f, 1)
		expectField(t, c.name, g, ok, fieldOf(4, 3, c.want...))
		g, ok = c.run(f, 0)
		expectField(t, c.name+" of radius 0", g, ok, f)
	}
	g, ok := impl.CoverageFilter(f, 1, 6)
	expectField(t, "CoverageFilter", g, ok, fieldOf(4, 3, 25, 33, 50, 50, 50, 56, 67, 67, 75, 83, 100, 100))
	peaks, ok := impl.PeakCells(f, 1)
	expectPeaks(t, "counted", peaks, ok, [][]int{{3, 2}})
	change, ok := impl.SmoothChange(f, 1)
	expectChange(t, "counted", change, ok, 3)
}

func TestNeighborhoodsAtEverySideAndCorner(t *testing.T) {
	for _, shape := range [][2]int{{8, 8}, {8, 1}, {1, 8}, {2, 3}, {3, 2}, {5, 8}, {1, 1}} {
		for at := range shape[0] * shape[1] {
			for r := range 4 {
				checkReach(t, fieldOf(shape[0], shape[1], filled(shape[0]*shape[1], gone)...), at, r)
			}
		}
	}
}

// checkReach puts one value into a field without values, and holds that exactly the cells whose
// neighborhood reaches it get it; and the other way round a cell that is Missing.
func checkReach(t *testing.T, f impl.Field, at int, r int) {
	t.Helper()
	value := []int{-5, 0, 9000, -9000}[at%4]
	reached := fieldOf(f.Wide, f.High, slices.Clone(f.Cells)...)
	for y := max(0, at/f.Wide-r); y <= at/f.Wide+r && y < f.High; y++ {
		for x := max(0, at%f.Wide-r); x <= at%f.Wide+r && x < f.Wide; x++ {
			reached.Cells[y*f.Wide+x] = value
		}
	}
	lonely := one(f, at, value)
	for _, call := range append(filterCalls(), filterCall{"FillByMean", impl.FillByMean, nil}) {
		g, ok := call.run(lonely, r)
		expectField(t, call.name+" of one value", g, ok, reached)
	}
	for i, cell := range reached.Cells {
		if cell != gone {
			reached.Cells[i] = 100
		}
	}
	g, ok := impl.CoverageFilter(lonely, r, value)
	expectField(t, "CoverageFilter of one value", g, ok, reached)
	peaks, ok := impl.PeakCells(lonely, r)
	expectPeaks(t, "one value", peaks, ok, [][]int{{at % f.Wide, at / f.Wide}})
	checkHole(t, fieldOf(f.Wide, f.High, filled(len(f.Cells), value)...), at, r)
}

// checkHole makes one cell of a field of one value Missing.
func checkHole(t *testing.T, full impl.Field, at int, r int) {
	t.Helper()
	hole := one(full, at, gone)
	want := full
	if r == 0 || len(full.Cells) == 1 {
		want = hole
	}
	for _, call := range append(filterCalls(), filterCall{"FillByMean", impl.FillByMean, nil}) {
		g, ok := call.run(hole, r)
		expectField(t, call.name+" around one missing cell", g, ok, want)
	}
	change, ok := impl.SmoothChange(hole, r)
	expectChange(t, "around one missing cell", change, ok, 0)
}

func TestNeighborhoodsWiderThanTheField(t *testing.T) {
	f := fieldOf(4, 2, 7, -2, gone, 3, 0, 11, -9, 1)
	for i, want := range []int{11, -9, 2, 1, 57} {
		call := filterCalls(1)[i]
		g, ok := call.run(f, 3)
		expectField(t, call.name, g, ok, fieldOf(4, 2, filled(8, want)...))
	}
	for r := range 4 {
		for _, cell := range []int{gone, 0, 9000, -9000} {
			single := fieldOf(1, 1, cell)
			for _, call := range filterCalls() {
				g, ok := call.run(single, r)
				expectField(t, call.name+" of one cell", g, ok, single)
			}
		}
	}
}

func TestFieldsWithoutValues(t *testing.T) {
	for _, shape := range [][2]int{{1, 1}, {8, 1}, {1, 8}, {8, 8}, {3, 5}} {
		f := fieldOf(shape[0], shape[1], filled(shape[0]*shape[1], gone)...)
		for r := range 4 {
			for _, call := range append(filterCalls(-9000, 0, 9000), filterCall{"FillByMean", impl.FillByMean, nil}) {
				g, ok := call.run(f, r)
				expectField(t, call.name, g, ok, f)
			}
			for n := range 6 {
				g, ok := impl.RepeatMaximum(f, r, n)
				expectField(t, "RepeatMaximum", g, ok, f)
			}
			peaks, ok := impl.PeakCells(f, r)
			expectPeaks(t, "no values", peaks, ok, [][]int{})
			change, ok := impl.SmoothChange(f, r)
			expectChange(t, "no values", change, ok, 0)
		}
	}
}

func TestMeansAreRounded(t *testing.T) {
	for _, c := range []struct {
		values []int
		want   int
	}{
		{[]int{0, 1}, 1}, {[]int{0, -1}, -1}, {[]int{1, 2}, 2}, {[]int{-1, -2}, -2}, {[]int{2, 3}, 3}, {[]int{-2, -3}, -3},
		{[]int{1, -1}, 0}, {[]int{2, -1}, 1}, {[]int{-2, 1}, -1}, {[]int{1, 0, 0}, 0}, {[]int{-1, 0, 0}, 0}, {[]int{1, 1, 0}, 1}, {[]int{-1, -1, 0}, -1},
		{[]int{0, 0, 0, 1}, 0}, {[]int{0, 0, 0, -1}, 0}, {[]int{1, 1, 0, 0}, 1}, {[]int{-1, -1, 0, 0}, -1}, {[]int{3, 3, 3, 2}, 3}, {[]int{-3, -3, -3, -2}, -3},
		{[]int{3, 2, 2, 2}, 2}, {[]int{-3, -2, -2, -2}, -2}, {[]int{9000, 8999}, 9000}, {[]int{-9000, -8999}, -9000}, {[]int{9000, -9000}, 0},
		{[]int{9000, -8999}, 1}, {[]int{-9000, 8999}, -1}, {[]int{9000, 9000, 8999}, 9000}, {[]int{9000, 8999, 8999}, 8999},
		{[]int{1, 4}, 3}, {[]int{-1, -4}, -3}, {[]int{1, gone, 4}, 3}, {[]int{gone, -1, -4}, -3}, {[]int{5, gone, gone, gone}, 5}, {[]int{7}, 7},
	} {
		size := len(c.values)
		for _, f := range []impl.Field{fieldOf(size, 1, c.values...), fieldOf(1, size, c.values...)} {
			g, ok := impl.MeanFilter(f, 3)
			expectField(t, "MeanFilter", g, ok, fieldOf(f.Wide, f.High, filled(size, c.want)...))
		}
	}
}

func TestMeansInTheMiddleOfEveryPair(t *testing.T) {
	for n := -9000; n < 9000; n++ {
		want := n + 1
		if n < 0 {
			want = n
		}
		for _, f := range []impl.Field{fieldOf(2, 1, n, n+1), fieldOf(2, 1, n+1, n)} {
			g, ok := impl.MeanFilter(f, 1)
			expectField(t, "MeanFilter", g, ok, fieldOf(2, 1, want, want))
		}
	}
}

// countedField is a field of 7 by 7 cells, all in the neighborhood of radius 3 of the middle
// one, with the given numbers of two values; the other cells are Missing.
func countedField(random *rand.Rand, a int, timesA int, b int, timesB int) impl.Field {
	f := fieldOf(7, 7, slices.Concat(filled(timesA, a), filled(timesB, b), filled(49-timesA-timesB, gone))...)
	random.Shuffle(49, func(i int, j int) { f.Cells[i], f.Cells[j] = f.Cells[j], f.Cells[i] })
	return f
}

const middleCell = 24

func TestMeansOfEveryNumberOfValues(t *testing.T) {
	random := rand.New(rand.NewPCG(6, 3))
	for size := 1; size <= 49; size++ {
		for part := 0; part <= size; part++ {
			for _, pair := range [][2]int{{0, 1}, {0, -1}, {9000, -9000}, {3, 4}, {-6, -7}, {-9000, -8999}} {
				f := countedField(random, pair[0], size-part, pair[1], part)
				sum := pair[0]*(size-part) + pair[1]*part
				g, ok := impl.MeanFilter(f, 3)
				if !ok || !isNearest(sum, size, g.Cells[middleCell]) {
					t.Errorf("mean %d / %d: %v, %v", sum, size, g, ok)
				}
			}
		}
	}
}

func TestMedians(t *testing.T) {
	for _, c := range []struct {
		values []int
		want   int
	}{
		{[]int{4}, 4}, {[]int{1, 4}, 1}, {[]int{4, 1}, 1}, {[]int{3, 1, 2}, 2}, {[]int{2, 3, 1}, 2}, {[]int{1, 2, 3}, 2}, {[]int{3, 2, 1}, 2},
		{[]int{4, 3, 2, 1}, 2}, {[]int{1, 2, 3, 4}, 2}, {[]int{2, 4, 1, 3}, 2}, {[]int{5, 5, 5}, 5}, {[]int{5, 5, 5, 5}, 5}, {[]int{1, 5, 5, 9}, 5},
		{[]int{9, 5, 5}, 5}, {[]int{1, 1, 9}, 1}, {[]int{9, 1, 9}, 9}, {[]int{1, 9, 1, 9}, 1}, {[]int{9, 9, 1, 9}, 9}, {[]int{-1, -2}, -2}, {[]int{-1, -2, -3}, -2},
		{[]int{-4, -1, -3, -2}, -3}, {[]int{-5, 5}, -5}, {[]int{5, 0, -5}, 0}, {[]int{0, -1, 1, -2}, -1}, {[]int{9000, -9000}, -9000}, {[]int{9000, -9000, 9000}, 9000},
		{[]int{gone, 3, 1, 2}, 2}, {[]int{3, gone, gone, 1}, 1}, {[]int{gone, -9000, gone}, -9000}, {[]int{gone, 8, 4, 6}, 6},
	} {
		size := len(c.values)
		for _, f := range []impl.Field{fieldOf(size, 1, c.values...), fieldOf(1, size, c.values...)} {
			g, ok := impl.MedianFilter(f, 3)
			expectField(t, "MedianFilter", g, ok, fieldOf(f.Wide, f.High, filled(size, c.want)...))
		}
	}
}

func TestMediansOfEveryNumberOfValues(t *testing.T) {
	random := rand.New(rand.NewPCG(6, 4))
	for size := 1; size <= 49; size++ {
		for part := 0; part <= size; part++ {
			f := countedField(random, -8, size-part, 5, part)
			want := 5
			if 2*(size-part) >= size {
				want = -8
			}
			g, ok := impl.MedianFilter(f, 3)
			if !ok || g.Cells[middleCell] != want {
				t.Errorf("median of %d and %d values: %v, %v", size-part, part, g, ok)
			}
		}
		f := fieldOf(7, 7, filled(49, gone)...)
		for i, rank := range random.Perm(size) {
			f.Cells[i] = 10*rank - 200
		}
		g, ok := impl.MedianFilter(f, 3)
		if !ok || g.Cells[middleCell] != 10*((size-1)/2)-200 {
			t.Errorf("median of %d different values: %v, %v", size, g, ok)
		}
	}
}

func TestCoverageIsRounded(t *testing.T) {
	// All cells of 4 by 2 and of 4 by 4 see the whole field with radius 3.
	eighths := []int{0, 13, 25, 38, 50, 63, 75, 88, 100}
	sixteenths := []int{0, 6, 13, 19, 25, 31, 38, 44, 50, 56, 63, 69, 75, 81, 88, 94, 100}
	for high, wants := range map[int][]int{2: eighths, 4: sixteenths} {
		size := 4 * high
		for part, want := range wants {
			f := fieldOf(4, high, append(filled(part, -3), filled(size-part, -4)...)...)
			g, ok := impl.CoverageFilter(f, 3, -3)
			expectField(t, strconv.Itoa(part)+" of "+strconv.Itoa(size), g, ok, fieldOf(4, high, filled(size, want)...))
		}
	}
}

func TestCoverageOfEveryNumberOfValues(t *testing.T) {
	random := rand.New(rand.NewPCG(6, 5))
	for size := 1; size <= 49; size++ {
		for part := 0; part <= size; part++ {
			f := countedField(random, 6, size-part, 7, part)
			g, ok := impl.CoverageFilter(f, 3, 7)
			if !ok || !isNearest(100*part, size, g.Cells[middleCell]) {
				t.Errorf("coverage %d of %d: %v, %v", part, size, g, ok)
			}
		}
	}
}

func TestThresholdsOfCoverage(t *testing.T) {
	f := fieldOf(4, 1, 5, gone, -9000, 9000)
	for threshold, want := range map[int]int{
		-9000: 100, -8999: 67, -1: 67, 0: 67, 4: 67, 5: 67, 6: 33, 8999: 33, 9000: 33,
	} {
		g, ok := impl.CoverageFilter(f, 3, threshold)
		expectField(t, "threshold "+strconv.Itoa(threshold), g, ok, fieldOf(4, 1, filled(4, want)...))
	}
	g, ok := impl.CoverageFilter(fieldOf(3, 1, 5, gone, -5), 0, 0)
	expectField(t, "radius 0", g, ok, fieldOf(3, 1, 100, gone, 0))
	g, ok = impl.CoverageFilter(fieldOf(2, 1, 8999, 8998), 1, 9000)
	expectField(t, "nothing covered", g, ok, fieldOf(2, 1, 0, 0))
	for _, threshold := range append(append(farNumbers(), badCells()...), 9001, -9001, gone) {
		for _, f := range []impl.Field{f, fieldOf(1, 1, gone), fieldOf(1, 1, 9000), {}} {
			for r := range 4 {
				g, ok := impl.CoverageFilter(f, r, threshold)
				expectNoField(t, "threshold "+strconv.Itoa(threshold), g, ok)
			}
		}
	}
}

func TestFillByMean(t *testing.T) {
	row := func(cells ...int) impl.Field { return fieldOf(len(cells), 1, cells...) }
	for _, c := range []struct {
		field impl.Field
		r     int
		want  impl.Field
	}{
		{row(1, gone, 4), 1, row(1, 3, 4)},
		{row(1, gone, 4), 0, row(1, gone, 4)},
		{row(-1, gone, -4), 1, row(-1, -3, -4)},
		{row(4, gone, gone), 1, row(4, 4, gone)},
		{row(gone, gone, 4), 1, row(gone, 4, 4)},
		{row(4, gone, gone), 2, row(4, 4, 4)},
		{row(4, gone, gone, 8), 1, row(4, 4, 8, 8)},
		{row(4, gone, gone, 8), 3, row(4, 6, 6, 8)},
		{row(0, gone, gone, gone, gone, gone, 9), 2, row(0, 0, 0, gone, 9, 9, 9)},
		{row(gone, 0, gone), 1, row(0, 0, 0)},
		{row(9, 1, 7), 3, row(9, 1, 7)},
		{row(gone), 3, row(gone)},
		{fieldOf(3, 3, 1, 2, 3, 4, gone, 6, 7, 8, 10), 1, fieldOf(3, 3, 1, 2, 3, 4, 5, 6, 7, 8, 10)},
		{fieldOf(2, 3, gone, 9000, gone, gone, -9000, gone), 1, fieldOf(2, 3, 9000, 9000, 0, 0, -9000, -9000)},
		{fieldOf(1, 4, 1, gone, gone, gone), 1, fieldOf(1, 4, 1, 1, gone, gone)},
	} {
		g, ok := impl.FillByMean(c.field, c.r)
		expectField(t, "FillByMean", g, ok, c.want)
	}
}

func TestPeakCells(t *testing.T) {
	row := func(cells ...int) impl.Field { return fieldOf(len(cells), 1, cells...) }
	corners := fieldOf(3, 3, 9, 0, 9, 0, 0, 0, 9, 0, 9)
	for _, c := range []struct {
		field impl.Field
		r     int
		want  [][]int
	}{
		{row(5), 3, [][]int{{0, 0}}},
		{row(gone), 0, [][]int{}},
		{row(5, 5, 1), 1, [][]int{}},
		{row(5, 5, 1, 3), 1, [][]int{{3, 0}}},
		{row(5, 1, 5), 1, [][]int{{0, 0}, {2, 0}}},
		{row(5, 1, 5), 2, [][]int{}},
		{row(5, 1, 5), 0, [][]int{{0, 0}, {1, 0}, {2, 0}}},
		{row(5, gone, 5), 0, [][]int{{0, 0}, {2, 0}}},
		{row(3, gone, 3), 1, [][]int{{0, 0}, {2, 0}}},
		{row(3, gone, 3), 2, [][]int{}},
		{row(3, gone, 4), 2, [][]int{{2, 0}}},
		{row(gone, gone, -9000, gone, gone), 3, [][]int{{2, 0}}},
		{row(gone, -9000, gone, gone, -8999), 3, [][]int{{4, 0}}},
		{row(-3, -2, -3, -4, -1), 1, [][]int{{1, 0}, {4, 0}}},
		{row(1, 2, 3, 4, 3, 2, 1), 3, [][]int{{3, 0}}},
		{row(7, 0, 0, 0, 7), 3, [][]int{{0, 0}, {4, 0}}},
		{row(7, 0, 0, 7, 0), 3, [][]int{}},
		{corners, 1, [][]int{{0, 0}, {2, 0}, {0, 2}, {2, 2}}},
		{corners, 2, [][]int{}},
		{fieldOf(2, 2, 4, 4, 4, 4), 1, [][]int{}},
		{fieldOf(2, 2, 4, 4, 4, 4), 0, [][]int{{0, 0}, {1, 0}, {0, 1}, {1, 1}}},
		{fieldOf(2, 2, 1, 2, 3, 2), 1, [][]int{{0, 1}}},
		{fieldOf(1, 3, 2, 1, 2), 1, [][]int{{0, 0}, {0, 2}}},
		{fieldOf(3, 3, 0, 0, 1, 0, 1, 0, 0, 0, 0), 1, [][]int{}},
		{fieldOf(3, 2, 0, 0, 8, 9, 0, 0), 1, [][]int{{2, 0}, {0, 1}}},
	} {
		peaks, ok := impl.PeakCells(c.field, c.r)
		expectPeaks(t, "radius "+strconv.Itoa(c.r), peaks, ok, c.want)
	}
}

func TestPeaksOfTheGreatestField(t *testing.T) {
	want := [][]int{}
	for i := range 64 {
		want = append(want, []int{i % 8, i / 8})
	}
	for _, value := range []int{0, -9000, 9000} {
		f := fieldOf(8, 8, filled(64, value)...)
		peaks, ok := impl.PeakCells(f, 0)
		expectPeaks(t, "radius 0", peaks, ok, want)
		peaks, ok = impl.PeakCells(f, 1)
		expectPeaks(t, "all equal", peaks, ok, [][]int{})
	}
}

func TestRepeatMaximum(t *testing.T) {
	f := fieldOf(8, 1, 1, gone, gone, gone, gone, gone, gone, -2)
	for n, want := range [][]int{
		{1, gone, gone, gone, gone, gone, gone, -2}, {1, 1, gone, gone, gone, gone, -2, -2}, {1, 1, 1, gone, gone, -2, -2, -2},
		{1, 1, 1, 1, -2, -2, -2, -2}, {1, 1, 1, 1, 1, -2, -2, -2}, {1, 1, 1, 1, 1, 1, -2, -2},
	} {
		g, ok := impl.RepeatMaximum(f, 1, n)
		expectField(t, strconv.Itoa(n)+" times", g, ok, fieldOf(8, 1, want...))
		g, ok = impl.RepeatMaximum(f, 0, n)
		expectField(t, strconv.Itoa(n)+" times with radius 0", g, ok, f)
	}
}

func TestRepeatedMaximaAreThoseOfAWiderSquare(t *testing.T) {
	random := rand.New(rand.NewPCG(6, 6))
	for range 1500 {
		f := sparseField(random, random.IntN(8)+1, random.IntN(8)+1, 50, random.IntN(101))
		r, n := random.IntN(4), random.IntN(6)
		g, ok := impl.RepeatMaximum(f, r, n)
		expectField(t, "RepeatMaximum", g, ok, plainFilter(f, r*n, filterCalls()[0].rule))
	}
}

func TestRepeatMaximumRejectsNumbers(t *testing.T) {
	fields := []impl.Field{fieldOf(1, 1, 0), fieldOf(1, 1, gone), fieldOf(3, 2, 1, -7, gone, 5, 0, 2), {}}
	for _, f := range fields {
		for _, n := range append(farNumbers(), -1, 6, 7, -5, 256, gone) {
			for r := range 4 {
				g, ok := impl.RepeatMaximum(f, r, n)
				expectNoField(t, strconv.Itoa(n)+" times", g, ok)
			}
		}
		for _, r := range badRadii() {
			for n := -1; n <= 6; n++ {
				g, ok := impl.RepeatMaximum(f, r, n)
				expectNoField(t, strconv.Itoa(n)+" times with radius "+strconv.Itoa(r), g, ok)
			}
		}
	}
}

func TestSmoothChange(t *testing.T) {
	row := func(cells ...int) impl.Field { return fieldOf(len(cells), 1, cells...) }
	for _, c := range []struct {
		field impl.Field
		r     int
		want  int
	}{
		{row(7), 3, 0}, {row(gone), 3, 0}, {row(4, 4, 4, 4), 1, 0}, {row(-4, -4, gone, -4), 2, 0}, {row(0, 10), 1, 5}, {row(10, 0), 1, 5}, {row(0, 10), 0, 0},
		{row(10, 10, 0), 1, 5}, {row(0, 0, 10), 1, 5}, {row(9, 9, 0, 9, 9), 2, 7}, {row(0, 0, 9, 0, 0), 2, 7}, {row(-9, -9, 0, -9, -9), 2, 7},
		{row(0, gone, 100), 1, 0}, {row(0, gone, 100), 2, 50}, {row(1, gone, 4), 2, 2}, {row(0, 1), 1, 1}, {row(0, -1), 1, 1}, {row(9000, -9000), 1, 9000},
		{fieldOf(7, 7, filled(49, gone)...), 1, 0},
		{one(fieldOf(7, 7, filled(49, -9000)...), middleCell, 9000), 3, 17633},
		{one(fieldOf(7, 7, filled(49, 9000)...), middleCell, -9000), 3, 17633},
	} {
		change, ok := impl.SmoothChange(c.field, c.r)
		expectChange(t, "radius "+strconv.Itoa(c.r), change, ok, c.want)
	}
}

func badRadii() []int {
	return append(farNumbers(), -1, 4, -2, -3, 5, 8, 256, gone)
}

// expectNothing fails unless every function of chapter 6 rejects its arguments.
func expectNothing(t *testing.T, what string, f impl.Field, r int) {
	t.Helper()
	for _, call := range append(filterCalls(-9000, 0, 9000), filterCall{"FillByMean", impl.FillByMean, nil}) {
		g, ok := call.run(f, r)
		expectNoField(t, call.name+" of "+what, g, ok)
	}
	for n := range 6 {
		g, ok := impl.RepeatMaximum(f, r, n)
		expectNoField(t, "RepeatMaximum of "+what, g, ok)
	}
	if peaks, ok := impl.PeakCells(f, r); ok || len(peaks) != 0 {
		t.Errorf("PeakCells of %s = %v, %v", what, peaks, ok)
	}
	if change, ok := impl.SmoothChange(f, r); ok || change != 0 {
		t.Errorf("SmoothChange of %s = %d, %v", what, change, ok)
	}
}

func TestFiltersRejectInvalidFields(t *testing.T) {
	for name, bad := range invalidFields() {
		for _, r := range []int{0, 1, 2, 3, -1, 4, math.MaxInt, math.MinInt} {
			expectNothing(t, name, bad, r)
		}
	}
}

func TestFiltersRejectRadii(t *testing.T) {
	for _, r := range badRadii() {
		for _, w := range writtenFields() {
			expectNothing(t, "radius "+strconv.Itoa(r), w.field, r)
		}
	}
}

// filterMemoryCalls are the functions of chapter 6 that return fields.
func filterMemoryCalls() []algebraCall {
	calls := []algebraCall{}
	for r := range 4 {
		for _, call := range append(filterCalls(-9000, 0, 5), filterCall{"FillByMean", impl.FillByMean, nil}) {
			calls = append(calls, algebraCall{call.name, 1, func(f []impl.Field) (impl.Field, bool) { return call.run(f[0], r) }})
		}
		for n := range 6 {
			name := strconv.Itoa(n) + " times MaximumFilter"
			calls = append(calls, algebraCall{name, 1, func(f []impl.Field) (impl.Field, bool) { return impl.RepeatMaximum(f[0], r, n) }})
		}
	}
	return calls
}

func TestFiltersAndMemory(t *testing.T) {
	for _, call := range filterMemoryCalls() {
		for _, w := range writtenFields() {
			checkMemory(t, call, []impl.Field{w.field})
		}
		checkMemory(t, call, []impl.Field{fieldOf(3, 3, 9, 1, 8, 2, 7, 3, 6, 4, 5)})
	}
}

func TestPeaksAndMemory(t *testing.T) {
	for _, shape := range [][2]int{{1, 1}, {3, 2}, {8, 8}} {
		f, room := roomy(countingField(shape[0], shape[1]))
		before := slices.Clone(room)
		peaks, _ := impl.PeakCells(f, 0)
		second, _ := impl.PeakCells(f, 0)
		want := plainPeaks(f, 0)
		expectPeaks(t, "radius 0", peaks, len(peaks) == len(f.Cells), want)
		if shareElements(peaks, second) {
			t.Error("two lists share memory")
		}
		for i, row := range peaks {
			for j, other := range slices.Concat(peaks[:i], second, [][]int{room}) {
				if shareElements(row, other) {
					t.Errorf("row %d shares memory with row or field %d", i, j)
				}
			}
		}
		for i, row := range second {
			for j := range row[:cap(row)] {
				row[:cap(row)][j] = 77
			}
			second[i] = nil
		}
		if !slices.Equal(room, before) {
			t.Error("the field is modified:", room)
		}
		for i := range room {
			room[i] = 88
		}
		expectPeaks(t, "after the field is changed", peaks, true, want)
	}
}

func TestPeaksAndChangesLeaveTheirArgument(t *testing.T) {
	for _, w := range writtenFields() {
		f, room := roomy(w.field)
		before := slices.Clone(room)
		for r := -1; r <= 4; r++ {
			impl.PeakCells(f, r)
			impl.SmoothChange(f, r)
		}
		if !slices.Equal(room, before) {
			t.Error("modified:", room)
		}
	}
}

func TestFiltersDoNotReadBehindTheLength(t *testing.T) {
	cells := []int{1, 2, 3, 4, 9000, -9000}
	short := fieldOf(2, 2, cells[:4]...)
	for r := range 4 {
		checkFilters(t, short, r)
		expectNothing(t, "a field completed from behind its length", fieldOf(2, 2, cells[:3]...), r)
		expectNothing(t, "a field of six cells, of which four are there", fieldOf(3, 2, cells[:4]...), r)
	}
}
