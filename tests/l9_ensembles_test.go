package tests

import (
	"math"
	"math/rand/v2"
	"slices"
	"strconv"
	"testing"

	"loop.example/g00889/impl"
)

// fraction is that of a quantile.
type fraction struct {
	num int
	den int
}

func (q fraction) String() string { return strconv.Itoa(q.num) + " / " + strconv.Itoa(q.den) }

func compareFractions(p fraction, q fraction) int { return p.num*q.den - q.num*p.den }

// someFractions are in ascending order, and some of them are equal. Those of great denominators
// lie near 0, near 1 and at or just behind the eighths.
func someFractions() []fraction {
	list := []fraction{}
	for _, den := range []int{1, 2, 3, 4, 5, 6, 7, 8, 9, 16, 99, 100} {
		for num := range den + 1 {
			if den <= 9 || num <= 2 || num >= den-2 || num*8%den < 8 {
				list = append(list, fraction{num, den})
			}
		}
	}
	slices.SortStableFunc(list, compareFractions)
	return list
}

// fewFractions are in ascending order too.
func fewFractions() []fraction {
	return []fraction{{0, 1}, {0, 100}, {1, 100}, {1, 8}, {1, 3}, {1, 2}, {50, 100}, {2, 3}, {4, 5}, {99, 100}, {1, 1}, {100, 100}}
}

// joinCall is a function of chapter 9 that makes a value of the values of the members at every
// cell, and the same by a rule of the tests, which gets at least one value, in ascending order.
type joinCall struct {
	name string
	run  func(list []impl.Field) (impl.Field, bool)
	rule func(sorted []int) int
}

func joinCalls(thresholds []int, fractions []fraction) []joinCall {
	calls := []joinCall{{"MeanMember", impl.MeanMember, plainMean}, {"SpreadField", impl.SpreadField, plainSpread}}
	for _, threshold := range thresholds {
		calls = append(calls, joinCall{
			"CountAtLeast " + strconv.Itoa(threshold),
			func(list []impl.Field) (impl.Field, bool) { return impl.CountAtLeast(list, threshold) },
			func(sorted []int) int { return plainCount(sorted, threshold) },
		})
	}
	for _, q := range fractions {
		calls = append(calls, joinCall{
			"QuantileField " + q.String(),
			func(list []impl.Field) (impl.Field, bool) { return impl.QuantileField(list, q.num, q.den) },
			func(sorted []int) int { return plainQuantile(sorted, q) },
		})
	}
	return calls
}

func plainSpread(sorted []int) int {
	if spread := sorted[len(sorted)-1] - sorted[0]; spread < 9000 {
		return spread
	}
	return 9000
}

func plainCount(sorted []int, threshold int) int {
	below, _ := slices.BinarySearch(sorted, threshold)
	return len(sorted) - below
}

func plainQuantile(sorted []int, q fraction) int {
	k := 1
	for k*q.den < q.num*len(sorted) {
		k++
	}
	return sorted[k-1]
}

// valuesAt returns the values of the members at a cell in ascending order.
func valuesAt(list []impl.Field, at int) []int {
	values := []int{}
	for _, f := range list {
		if f.Cells[at] != gone {
			values = append(values, f.Cells[at])
		}
	}
	slices.Sort(values)
	return values
}

func plainJoined(list []impl.Field, rule func(sorted []int) int) impl.Field {
	made := fieldOf(list[0].Wide, list[0].High, filled(len(list[0].Cells), gone)...)
	for at := range made.Cells {
		if values := valuesAt(list, at); len(values) > 0 {
			made.Cells[at] = rule(values)
		}
	}
	return made
}

func plainNearestMember(list []impl.Field, f impl.Field) (int, int) {
	sums := make([]int, len(list))
	for i, member := range list {
		for at := range f.Cells {
			if values := valuesAt([]impl.Field{member, f}, at); len(values) == 2 {
				sums[i] += values[1] - values[0]
			}
		}
	}
	least := slices.Min(sums)
	return slices.Index(sums, least), least
}

func plainAgreeing(list []impl.Field, threshold int) int {
	count := 0
	for at := range list[0].Cells {
		values := valuesAt(list, at)
		if len(values) == len(list) && (values[0] >= threshold || values[len(values)-1] < threshold) {
			count++
		}
	}
	return count
}

// cellMembers returns fields of one cell.
func cellMembers(cells ...int) []impl.Field { return rowMembers(1, cells...) }

// rowMembers returns fields of one row; their cells stand behind one another.
func rowMembers(wide int, cells ...int) []impl.Field {
	list := []impl.Field{}
	for part := range slices.Chunk(cells, wide) {
		list = append(list, fieldOf(wide, 1, slices.Clone(part)...))
	}
	return list
}

// someMembers are random fields of one shape, of which share of 100 cells are Missing.
func someMembers(random *rand.Rand, count int, wide int, high int, size int, share int) []impl.Field {
	list := make([]impl.Field, count)
	for i := range list {
		list[i] = sparseField(random, wide, high, size, share)
	}
	return list
}

func expectPair(t *testing.T, what string, a int, b int, ok bool, wantA int, wantB int) {
	t.Helper()
	if !ok || a != wantA || b != wantB {
		t.Errorf("%s = %d, %d, %v, not %d, %d", what, a, b, ok, wantA, wantB)
	}
}

func expectNoPair(t *testing.T, what string, a int, b int, ok bool) {
	t.Helper()
	if ok || a != 0 || b != 0 {
		t.Errorf("%s = %d, %d, %v", what, a, b, ok)
	}
}

func expectNoNumber(t *testing.T, what string, n int, ok bool) {
	t.Helper()
	if ok || n != 0 {
		t.Errorf("%s = %d, %v", what, n, ok)
	}
}

func expectMembers(t *testing.T, what string, got []impl.Field, ok bool, want []impl.Field) {
	t.Helper()
	if !ok || !slices.EqualFunc(got, want, sameField) {
		t.Errorf("%s = %v, %v, not %v", what, got, ok, want)
	}
}

func expectNoMembers(t *testing.T, what string, got []impl.Field, ok bool) {
	t.Helper()
	if ok || len(got) != 0 {
		t.Errorf("%s = %v, %v", what, got, ok)
	}
}

// checkEnsemble holds every function of chapter 9 against the tests' own; the thresholds are the
// values for RankOf as well.
func checkEnsemble(t *testing.T, list []impl.Field, f impl.Field, thresholds []int, fractions []fraction) {
	t.Helper()
	if !impl.IsValidEnsemble(list) {
		t.Fatalf("no ensemble: %v", list)
	}
	for _, call := range joinCalls(thresholds, fractions) {
		got, ok := call.run(list)
		expectField(t, call.name, got, ok, plainJoined(list, call.rule))
	}
	for _, threshold := range thresholds {
		n, ok := impl.AgreeingCells(list, threshold)
		expectNumber(t, "AgreeingCells "+strconv.Itoa(threshold), n, ok, plainAgreeing(list, threshold))
		checkCells(t, list, threshold)
	}
	i, sum, ok := impl.NearestMember(list, f)
	wantI, wantSum := plainNearestMember(list, f)
	expectPair(t, "NearestMember", i, sum, ok, wantI, wantSum)
	checkWithout(t, list)
}

// checkCells holds the functions of a cell against the tests' own for all cells.
func checkCells(t *testing.T, list []impl.Field, number int) {
	t.Helper()
	for at := range list[0].Cells {
		x, y := at%list[0].Wide, at/list[0].Wide
		values := valuesAt(list, at)
		count, all, ok := impl.ChanceAt(list, x, y, number)
		expectPair(t, "ChanceAt", count, all, ok, plainCount(values, number), len(values))
		less, equal := 0, 0
		for _, value := range values {
			switch {
			case value < number:
				less++
			case value == number:
				equal++
			}
		}
		gotLess, gotEqual, ok := impl.RankOf(list, x, y, number)
		expectPair(t, "RankOf", gotLess, gotEqual, ok, less, equal)
	}
}

func checkWithout(t *testing.T, list []impl.Field) {
	t.Helper()
	for i := -1; i <= len(list); i++ {
		what := "WithoutMember " + strconv.Itoa(i) + " of " + strconv.Itoa(len(list))
		rest, ok := impl.WithoutMember(list, i)
		if i < 0 || i == len(list) || len(list) == 1 {
			expectNoMembers(t, what, rest, ok)
			continue
		}
		expectMembers(t, what, rest, ok, slices.Delete(slices.Clone(list), i, i+1))
	}
}

// checkPromise holds that counts are chances at every cell, and that quantiles rise with the
// fraction from the smallest value to the greatest one.
func checkPromise(t *testing.T, list []impl.Field, thresholds []int, rising []fraction) {
	t.Helper()
	for _, threshold := range thresholds {
		counts, ok := impl.CountAtLeast(list, threshold)
		for at := range list[0].Cells {
			count, all, okChance := impl.ChanceAt(list, at%list[0].Wide, at/list[0].Wide, threshold)
			if all == 0 && count == 0 {
				count = gone
			}
			if !ok || !okChance || counts.Cells[at] != count {
				t.Errorf("threshold %d: %v at cell %d, not %d, for %v", threshold, counts, at, count, list)
			}
		}
	}
	least := plainJoined(list, func(sorted []int) int { return sorted[0] })
	most := plainJoined(list, func(sorted []int) int { return sorted[len(sorted)-1] })
	before, last := least, rising[0]
	for _, q := range rising {
		now, ok := impl.QuantileField(list, q.num, q.den)
		if !ok || len(now.Cells) != len(before.Cells) {
			t.Fatalf("QuantileField %v = %v, %v", q, now, ok)
		}
		same := compareFractions(last, q) == 0
		for at, cell := range now.Cells {
			if before.Cells[at] > cell || same && before.Cells[at] != cell {
				t.Errorf("quantile %v is %d and quantile %v is %d at cell %d of %v", last, before.Cells[at], q, cell, at, list)
			}
		}
		if q.num == 0 || q.num == q.den {
			expectField(t, "the quantile "+q.String(), now, ok, either(q.num == 0, least, most))
		}
		before, last = now, q
	}
}

func TestLimitOfMembers(t *testing.T) {
	if impl.MaxMembers != 8 {
		t.Error("MaxMembers", impl.MaxMembers)
	}
}

func TestNumbersOfMembers(t *testing.T) {
	for count := range 300 {
		list := slices.Repeat([]impl.Field{fieldOf(2, 1, 3, gone)}, count)
		if count < 1 || count > 8 {
			expectNoEnsemble(t, strconv.Itoa(count)+" members", list)
			continue
		}
		checkEnsemble(t, list, list[0], []int{2, 3, 4}, fewFractions())
	}
	expectNoEnsemble(t, "nil", nil)
}

// listsOver calls a function with all lists of a size over some cells.
func listsOver(cells []int, size int, call func(list []int)) {
	list := make([]int, size)
	for number := range int(math.Pow(float64(len(cells)), float64(size))) {
		for i := range list {
			list[i] = cells[number%len(cells)]
			number /= len(cells)
		}
		call(list)
	}
}

func TestEveryEnsembleOfOneCell(t *testing.T) {
	for count := 1; count <= 4; count++ {
		listsOver([]int{gone, -2, -1, 0, 3}, count, func(cells []int) {
			checkEnsemble(t, cellMembers(cells...), fieldOf(1, 1, 1), []int{-3, -2, -1, 0, 1, 3, 4}, fewFractions())
			checkPromise(t, cellMembers(cells...), []int{-2, 0}, fewFractions())
		})
	}
	for count := 5; count <= 8; count++ {
		listsOver([]int{gone, -7, 8}, count, func(cells []int) {
			checkEnsemble(t, cellMembers(cells...), fieldOf(1, 1, 0), []int{-8, -7, 8, 9}, fewFractions())
		})
	}
}

func TestEveryEnsembleOfTwoOrThreeCells(t *testing.T) {
	f := fieldOf(2, 1, 1, 4)
	for count := 1; count <= 4; count++ {
		listsOver([]int{gone, 0, 5}, 2*count, func(cells []int) {
			checkEnsemble(t, rowMembers(2, cells...), f, []int{0, 1, 5}, []fraction{{0, 1}, {1, 2}, {1, 1}})
		})
	}
	for count := 1; count <= 2; count++ {
		listsOver([]int{gone, -4, 2}, 3*count, func(cells []int) {
			listsOver([]int{gone, 2, 3}, 3, func(others []int) {
				list := rowMembers(3, cells...)
				i, sum, ok := impl.NearestMember(list, fieldOf(3, 1, others...))
				wantI, wantSum := plainNearestMember(list, fieldOf(3, 1, others...))
				expectPair(t, "NearestMember", i, sum, ok, wantI, wantSum)
			})
		})
	}
}

func TestEnsemblesOfEveryShape(t *testing.T) {
	random := rand.New(rand.NewPCG(9, 1))
	everyShape(func(wide int, high int) {
		for count := 1; count <= 8; count++ {
			for _, share := range []int{0, 30, 80, 100} {
				size := []int{1, 4, 100, 9000}[random.IntN(4)]
				list := someMembers(random, count, wide, high, size, share)
				f := sparseField(random, wide, high, size, share)
				thresholds := []int{-9000, 0, size, random.IntN(2*size+1) - size}
				checkEnsemble(t, list, f, thresholds, []fraction{{0, 7}, {1, 2}, {random.IntN(51), 50 + random.IntN(51)}, {9, 9}})
				checkPromise(t, list, thresholds, fewFractions())
			}
		}
	})
}

func TestQuantilesRiseInManyEnsembles(t *testing.T) {
	random := rand.New(rand.NewPCG(9, 2))
	for i := range 600 {
		size := []int{1, 2, 30, 9000}[random.IntN(4)]
		list := someMembers(random, i%8+1, random.IntN(3)+1, random.IntN(3)+1, size, random.IntN(101))
		checkPromise(t, list, []int{-9000, -1, 0, 1, size, 9000}, someFractions())
	}
}

func TestEnsembleByHand(t *testing.T) {
	list := []impl.Field{
		fieldOf(3, 2, 1, 5, gone, -4, gone, 7), fieldOf(3, 2, 3, gone, gone, -4, 9, 8),
		fieldOf(3, 2, 2, 7, gone, -9, gone, 7), fieldOf(3, 2, 8, 6, gone, 0, gone, 7),
	}
	for _, c := range []struct {
		name string
		run  func() (impl.Field, bool)
		want []int
	}{
		{"CountAtLeast", func() (impl.Field, bool) { return impl.CountAtLeast(list, 3) }, []int{2, 3, gone, 0, 1, 4}},
		{"smallest", func() (impl.Field, bool) { return impl.QuantileField(list, 0, 1) }, []int{1, 5, gone, -9, 9, 7}},
		{"quarter", func() (impl.Field, bool) { return impl.QuantileField(list, 1, 4) }, []int{1, 5, gone, -9, 9, 7}},
		{"third", func() (impl.Field, bool) { return impl.QuantileField(list, 1, 3) }, []int{2, 5, gone, -4, 9, 7}},
		{"median", func() (impl.Field, bool) { return impl.QuantileField(list, 1, 2) }, []int{2, 6, gone, -4, 9, 7}},
		{"three quarters", func() (impl.Field, bool) { return impl.QuantileField(list, 75, 100) }, []int{3, 7, gone, -4, 9, 7}},
		{"more than three quarters", func() (impl.Field, bool) { return impl.QuantileField(list, 76, 100) }, []int{8, 7, gone, 0, 9, 8}},
		{"greatest", func() (impl.Field, bool) { return impl.QuantileField(list, 1, 1) }, []int{8, 7, gone, 0, 9, 8}},
		{"MeanMember", func() (impl.Field, bool) { return impl.MeanMember(list) }, []int{4, 6, gone, -4, 9, 7}},
		{"SpreadField", func() (impl.Field, bool) { return impl.SpreadField(list) }, []int{7, 2, gone, 9, 0, 1}},
	} {
		f, ok := c.run()
		expectField(t, c.name, f, ok, fieldOf(3, 2, c.want...))
	}
	for threshold, want := range map[int]int{-9000: 3, -9: 3, -8: 2, -4: 2, 0: 2, 1: 3, 2: 2, 7: 2, 8: 1, 9: 3, 9000: 3} {
		n, ok := impl.AgreeingCells(list, threshold)
		expectNumber(t, "AgreeingCells "+strconv.Itoa(threshold), n, ok, want)
	}
}

func TestThresholdsBesideEveryValue(t *testing.T) {
	for _, c := range []struct{ threshold, want int }{
		{-9000, 6}, {-8999, 5}, {-2, 5}, {-1, 5}, {0, 4}, {1, 4}, {4, 4}, {5, 4}, {6, 2}, {8999, 2}, {9000, 1},
	} {
		list := rowMembers(2, -9000, gone, -1, gone, 5, gone, gone, gone, 5, gone, 8999, gone, 9000, gone)
		f, ok := impl.CountAtLeast(list, c.threshold)
		expectField(t, "CountAtLeast "+strconv.Itoa(c.threshold), f, ok, fieldOf(2, 1, c.want, gone))
		count, all, ok := impl.ChanceAt(list, 0, 0, c.threshold)
		expectPair(t, "ChanceAt "+strconv.Itoa(c.threshold), count, all, ok, c.want, 6)
		count, all, ok = impl.ChanceAt(list, 1, 0, c.threshold)
		expectPair(t, "ChanceAt without values", count, all, ok, 0, 0)
	}
}

// noThresholds are not values, though Missing is a cell.
func noThresholds() []int {
	return append(slices.Concat(farNumbers(), badCells()), gone, gone-1, gone+1)
}

func TestThresholdsOutOfRange(t *testing.T) {
	lists := [][]impl.Field{cellMembers(0), cellMembers(gone), cellMembers(9000, -9000, gone), rowMembers(3, 1, -7, gone, 5, 0, 2), {}}
	for _, list := range lists {
		for _, n := range noThresholds() {
			what := strconv.Itoa(n)
			f, ok := impl.CountAtLeast(list, n)
			expectNoField(t, "CountAtLeast "+what, f, ok)
			a, b, ok := impl.ChanceAt(list, 0, 0, n)
			expectNoPair(t, "ChanceAt "+what, a, b, ok)
			a, b, ok = impl.RankOf(list, 0, 0, n)
			expectNoPair(t, "RankOf "+what, a, b, ok)
			count, ok := impl.AgreeingCells(list, n)
			expectNoNumber(t, "AgreeingCells "+what, count, ok)
		}
	}
}

func TestQuantilesOfEveryFraction(t *testing.T) {
	random := rand.New(rand.NewPCG(9, 3))
	for size := 1; size <= 8; size++ {
		// The values are their own places in ascending order, and those of the second cell are equal.
		cells := slices.Concat(countingField(size, 1).Cells, filled(8-size, gone))
		random.Shuffle(8, func(i int, j int) { cells[i], cells[j] = cells[j], cells[i] })
		list := []impl.Field{}
		for _, cell := range cells {
			list = append(list, fieldOf(3, 1, cell, -5, gone))
		}
		for num := -3; num <= 103; num++ {
			for den := -3; den <= 103; den++ {
				checkPlace(t, list, size, fraction{num, den})
			}
		}
	}
}

// checkPlace takes an ensemble whose values at the first cell are 1 to size.
func checkPlace(t *testing.T, list []impl.Field, size int, q fraction) {
	t.Helper()
	f, ok := impl.QuantileField(list, q.num, q.den)
	what := "QuantileField " + q.String() + " of " + strconv.Itoa(size)
	if q.num < 0 || q.den < q.num || q.den < 1 || q.den > 100 {
		expectNoField(t, what, f, ok)
		return
	}
	place := 1
	for place < size && place*q.den < q.num*size {
		place++
	}
	expectField(t, what, f, ok, fieldOf(3, 1, place, -5, gone))
}

func TestFractionsOutOfRange(t *testing.T) {
	lists := [][]impl.Field{cellMembers(0), cellMembers(gone), cellMembers(4, 2, gone, 4), {}}
	for _, list := range lists {
		for _, far := range append(farNumbers(), -1, -100, 101, 128, 256, gone) {
			for _, n := range append(farNumbers(), -1, 0, 1, 2, 50, 100, 101) {
				for _, q := range []fraction{{far, n}, {n, far}, {far, far}} {
					f, ok := impl.QuantileField(list, q.num, q.den)
					expectNoField(t, "QuantileField "+q.String(), f, ok)
				}
			}
		}
		for _, q := range []fraction{{0, 0}, {1, 0}, {2, 1}, {100, 99}, {101, 100}, {101, 101}, {0, 101}, {-1, 1}, {-1, -1}, {0, -1}, {-2, -1}, {-1, 0}} {
			f, ok := impl.QuantileField(list, q.num, q.den)
			expectNoField(t, "QuantileField "+q.String(), f, ok)
		}
	}
}

func TestQuantilesOfEqualValues(t *testing.T) {
	for _, c := range []struct {
		cells []int
		q     fraction
		want  int
	}{
		{[]int{5, 5, 1}, fraction{1, 3}, 1}, {[]int{5, 5, 1}, fraction{34, 100}, 5}, {[]int{5, 5, 1}, fraction{1, 1}, 5},
		{[]int{1, 5, 1, 5}, fraction{1, 2}, 1}, {[]int{1, 5, 1, 5}, fraction{51, 100}, 5}, {[]int{5, 1, 1, 1}, fraction{3, 4}, 1},
		{[]int{5, 1, 1, 1}, fraction{76, 100}, 5}, {[]int{-3, -3}, fraction{0, 1}, -3}, {[]int{9, gone, 8, gone}, fraction{1, 2}, 8},
		{[]int{9, gone, 8, gone}, fraction{2, 3}, 9}, {[]int{gone, 7, gone}, fraction{0, 100}, 7}, {[]int{gone, 7, gone}, fraction{100, 100}, 7},
		{[]int{-9000, 9000}, fraction{1, 2}, -9000}, {[]int{9000, -9000}, fraction{51, 100}, 9000}, {[]int{10, 9, -1, -10}, fraction{1, 4}, -10},
		{[]int{8, 7, 6, 5, 4, 3, 2, 1}, fraction{1, 8}, 1}, {[]int{8, 7, 6, 5, 4, 3, 2, 1}, fraction{13, 100}, 2}, {[]int{gone}, fraction{1, 2}, gone},
	} {
		f, ok := impl.QuantileField(cellMembers(c.cells...), c.q.num, c.q.den)
		expectField(t, "QuantileField "+c.q.String(), f, ok, fieldOf(1, 1, c.want))
	}
}

func TestMeansOfMembersAreRounded(t *testing.T) {
	for _, c := range []struct {
		cells []int
		want  int
	}{
		{[]int{0, 1}, 1}, {[]int{0, -1}, -1}, {[]int{2, 3}, 3}, {[]int{-2, -3}, -3}, {[]int{1, -1}, 0}, {[]int{2, -1}, 1}, {[]int{-2, 1}, -1},
		{[]int{1, 0, 0}, 0}, {[]int{-1, 0, 0}, 0}, {[]int{1, 1, 0}, 1}, {[]int{-1, -1, 0}, -1}, {[]int{1, 1, 0, 0}, 1}, {[]int{-1, -1, 0, 0}, -1},
		{[]int{1, 0, 0, 0}, 0}, {[]int{-1, 0, 0, 0}, 0}, {[]int{1, gone, 4}, 3}, {[]int{gone, -1, -4}, -3}, {[]int{gone, gone, 6}, 6}, {[]int{gone, gone}, gone},
		{[]int{9000, 8999}, 9000}, {[]int{-9000, -8999}, -9000}, {[]int{9000, -9000}, 0}, {[]int{9000, -8999}, 1}, {[]int{8999, -9000}, -1},
		{filled(8, 9000), 9000}, {filled(8, -9000), -9000}, {[]int{1, 1, 1, 1, 0, 0, 0, 0}, 1}, {[]int{-1, -1, -1, -1, 0, 0, 0, 0}, -1},
		{[]int{1, 1, 1, 0, 0, 0, 0, 0}, 0}, {[]int{-1, -1, -1, 0, 0, 0, 0, 0}, 0}, {[]int{7}, 7},
	} {
		f, ok := impl.MeanMember(cellMembers(c.cells...))
		expectField(t, "MeanMember", f, ok, fieldOf(1, 1, c.want))
	}
	for n := -9000; n < 9000; n++ {
		f, ok := impl.MeanMember(rowMembers(2, n, n+1, n+1, n))
		want := either(n < 0, n, n+1)
		expectField(t, "the mean of two", f, ok, fieldOf(2, 1, want, want))
	}
}

func TestSpreadsAtTheLimit(t *testing.T) {
	for _, c := range []struct {
		cells []int
		want  int
	}{
		{[]int{4}, 0}, {[]int{-9000}, 0}, {[]int{7, 7, 7}, 0}, {[]int{gone, -3, gone}, 0}, {[]int{gone, gone}, gone}, {[]int{gone}, gone}, {[]int{0, 1}, 1}, {[]int{1, 0}, 1},
		{[]int{-1, gone, 1, 0}, 2}, {[]int{0, 8999}, 8999}, {[]int{0, 9000}, 9000}, {[]int{-9000, 0}, 9000}, {[]int{-4500, 4500}, 9000},
		{[]int{-4500, 4499}, 8999}, {[]int{-4500, 4501}, 9000}, {[]int{-1, 9000}, 9000}, {[]int{-9000, 9000}, 9000}, {[]int{9000, -9000}, 9000}, {[]int{-500, 9000, 0}, 9000},
		{[]int{-9000, 999}, 9000}, {[]int{8, 3, 5, 4, 9, 1, 2, 6}, 8},
	} {
		f, ok := impl.SpreadField(cellMembers(c.cells...))
		expectField(t, "SpreadField", f, ok, fieldOf(1, 1, c.want))
	}
}

func TestNearestMember(t *testing.T) {
	for _, c := range []struct {
		list  []impl.Field
		field []int
		index int
		sum   int
	}{
		{rowMembers(2, 1, 5, 3, gone, 2, 7), []int{3, 7}, 1, 0},
		{rowMembers(2, 1, 5, 4, 4, 2, 6), []int{3, 7}, 2, 2},
		{rowMembers(2, 1, 5, 5, 9, 3, 3), []int{3, 7}, 0, 4},
		{rowMembers(2, 9, 9, 5, 9, 1, 5), []int{3, 7}, 1, 4},
		{rowMembers(2, 9, 9, 4, 6, 2, 8, 3, 9), []int{3, 7}, 1, 2},
		{rowMembers(2, 3, 7, 3, 7), []int{3, 7}, 0, 0},
		{rowMembers(2, 3, 8, gone, gone, 3, 7), []int{3, 7}, 1, 0},
		{rowMembers(2, gone, gone, 3, 7), []int{3, 7}, 0, 0},
		{rowMembers(2, 3, 7, gone, gone), []int{3, 7}, 0, 0},
		{rowMembers(2, 5, 0, gone, 7, 3, gone), []int{3, gone}, 1, 0},
		{rowMembers(2, 5, 0, 4, 900, 9, gone), []int{3, gone}, 1, 1},
		{rowMembers(2, 5, gone, 4, gone), []int{gone, 7}, 0, 0},
		{rowMembers(2, 5, 1, gone, 2), []int{gone, gone}, 0, 0},
		{rowMembers(2, gone, gone), []int{gone, gone}, 0, 0},
		{rowMembers(2, 8, -8), []int{-8, 8}, 0, 32},
		{rowMembers(2, -9000, 9000, 9000, -8999), []int{9000, -9000}, 1, 1},
		{rowMembers(1, 0, gone, 5), []int{-9999}, 0, 0},
		{rowMembers(1, 0, 9000, 5), []int{-9000}, 0, 9000},
		{rowMembers(1, 9, 8, 7, 6, 5, 4, 3, 2), []int{2}, 7, 0},
	} {
		i, sum, ok := impl.NearestMember(c.list, fieldOf(len(c.field), 1, c.field...))
		expectPair(t, "NearestMember", i, sum, ok, c.index, c.sum)
	}
	low, high := fieldOf(8, 8, filled(64, -9000)...), fieldOf(8, 8, filled(64, 9000)...)
	i, sum, ok := impl.NearestMember([]impl.Field{low, low}, high)
	expectPair(t, "the greatest sum", i, sum, ok, 0, 64*18000)
}

func TestNearestMemberRejectsFields(t *testing.T) {
	for name, bad := range invalidFields() {
		for _, list := range [][]impl.Field{{shapedLike(bad, 1)}, {bad}, {bad, bad}, cellMembers(0), cellMembers(gone, 5)} {
			i, sum, ok := impl.NearestMember(list, bad)
			expectNoPair(t, "NearestMember with "+name, i, sum, ok)
		}
	}
	everyShape(func(wide int, high int) {
		list := slices.Repeat([]impl.Field{fieldOf(wide, high, filled(wide*high, 4)...)}, 2)
		everyShape(func(otherWide int, otherHigh int) {
			i, sum, ok := impl.NearestMember(list, fieldOf(otherWide, otherHigh, filled(otherWide*otherHigh, 7)...))
			if wide == otherWide && high == otherHigh {
				expectPair(t, "NearestMember", i, sum, ok, 0, 3*wide*high)
			} else {
				expectNoPair(t, "NearestMember of another shape", i, sum, ok)
			}
		})
	})
}

func TestRanksBesideEveryValue(t *testing.T) {
	list := rowMembers(3, 4, gone, 9000, -1, gone, 9000, 4, gone, -9000, gone, gone, -9000, 6, gone, gone)
	for _, c := range []struct{ x, value, less, equal int }{
		{0, -9000, 0, 0}, {0, -2, 0, 0}, {0, -1, 0, 1}, {0, 0, 1, 0}, {0, 3, 1, 0}, {0, 4, 1, 2}, {0, 5, 3, 0}, {0, 6, 3, 1}, {0, 7, 4, 0}, {0, 9000, 4, 0},
		{1, -9000, 0, 0}, {1, 0, 0, 0}, {1, 9000, 0, 0},
		{2, -9000, 0, 2}, {2, -8999, 2, 0}, {2, 8999, 2, 0}, {2, 9000, 2, 2},
	} {
		less, equal, ok := impl.RankOf(list, c.x, 0, c.value)
		expectPair(t, "RankOf "+strconv.Itoa(c.value), less, equal, ok, c.less, c.equal)
	}
}

func TestRanksAndChancesFitTogether(t *testing.T) {
	random := rand.New(rand.NewPCG(9, 4))
	for i := range 2000 {
		list := someMembers(random, i%8+1, 1, 1, 3, 20)
		for value := -4; value <= 4; value++ {
			less, equal, _ := impl.RankOf(list, 0, 0, value)
			count, all, _ := impl.ChanceAt(list, 0, 0, value)
			above, _, _ := impl.ChanceAt(list, 0, 0, value+1)
			if less+count != all || count-above != equal {
				t.Errorf("%d less and %d equal to %d, %d at least, of %v", less, equal, value, count, list)
			}
		}
	}
}

func TestCellsOutsideOfEnsembles(t *testing.T) {
	list := []impl.Field{countingField(3, 2), countingField(3, 2)}
	for _, p := range farPlaces() {
		for _, n := range []int{-9000, 0, 3, 9000, gone} {
			a, b, ok := impl.ChanceAt(list, p[0], p[1], n)
			expectNoPair(t, "ChanceAt", a, b, ok)
			a, b, ok = impl.RankOf(list, p[0], p[1], n)
			expectNoPair(t, "RankOf", a, b, ok)
		}
	}
	everyShape(func(wide int, high int) {
		list := []impl.Field{fieldOf(wide, high, filled(wide*high, 1)...)}
		for x := -2; x <= 10; x++ {
			for y := -2; y <= 10; y++ {
				a, b, ok := impl.ChanceAt(list, x, y, 1)
				c, d, okRank := impl.RankOf(list, x, y, 1)
				if x >= 0 && x < wide && y >= 0 && y < high {
					expectPair(t, "ChanceAt", a, b, ok, 1, 1)
					expectPair(t, "RankOf", c, d, okRank, 0, 1)
				} else {
					expectNoPair(t, "ChanceAt", a, b, ok)
					expectNoPair(t, "RankOf", c, d, okRank)
				}
			}
		}
	})
}

func TestWithoutMember(t *testing.T) {
	for count := 1; count <= 8; count++ {
		list := []impl.Field{}
		for i := range count {
			list = append(list, fieldOf(2, 2, i, gone, -i, 9000-i))
		}
		checkWithout(t, list)
		for _, i := range append(farNumbers(), -1, -2, -count, count, count+1, 8, 9, 256, gone) {
			rest, ok := impl.WithoutMember(list, i)
			if i >= 0 && i < count {
				continue
			}
			expectNoMembers(t, "WithoutMember "+strconv.Itoa(i)+" of "+strconv.Itoa(count), rest, ok)
		}
	}
	same := cellMembers(5, 5, gone, 5)
	rest, ok := impl.WithoutMember(same, 2)
	expectMembers(t, "of equal members", rest, ok, cellMembers(5, 5, 5))
	rest, ok = impl.WithoutMember(cellMembers(1, 2), 0)
	expectMembers(t, "one is left", rest, ok, cellMembers(2))
}

func TestAgreeingCells(t *testing.T) {
	list := rowMembers(8,
		5, 1, 5, gone, gone, gone, 4, -9000,
		6, 2, 1, 5, gone, 1, 3, -9000,
		7, 3, 6, 6, gone, 2, 4, -9000,
	)
	for _, c := range []struct{ threshold, want int }{{-9000, 5}, {-8999, 5}, {1, 5}, {2, 3}, {3, 3}, {4, 3}, {5, 4}, {6, 3}, {7, 4}, {8, 5}, {9000, 5}} {
		n, ok := impl.AgreeingCells(list, c.threshold)
		expectNumber(t, "AgreeingCells "+strconv.Itoa(c.threshold), n, ok, c.want)
	}
	for _, c := range []struct {
		cells     []int
		threshold int
		want      int
	}{
		{[]int{4}, 4, 1}, {[]int{4}, 5, 1}, {[]int{gone}, 4, 0}, {[]int{4, gone}, 4, 0}, {[]int{gone, 4}, 5, 0}, {[]int{gone, gone}, 0, 0}, {[]int{4, 5}, 5, 0},
		{[]int{5, 4}, 5, 0}, {[]int{4, 5}, 4, 1}, {[]int{4, 5}, 6, 1}, {[]int{9000, 9000}, 9000, 1}, {[]int{-9000, -9000}, -9000, 1}, {[]int{9000, -9000}, 0, 0},
		{[]int{1, 1, 1, 1, 1, 1, 1, 0}, 1, 0}, {[]int{1, 1, 1, 1, 1, 1, 1, gone}, 1, 0}, {filled(8, 1), 1, 1}, {filled(8, 1), 2, 1},
	} {
		n, ok := impl.AgreeingCells(cellMembers(c.cells...), c.threshold)
		expectNumber(t, "AgreeingCells "+strconv.Itoa(c.threshold), n, ok, c.want)
	}
	n, ok := impl.AgreeingCells(slices.Repeat([]impl.Field{countingField(8, 8)}, 8), 32)
	expectNumber(t, "all cells agree", n, ok, 64)
}

// expectNoEnsemble fails unless every function of chapter 9 rejects a list.
func expectNoEnsemble(t *testing.T, what string, list []impl.Field) {
	t.Helper()
	if impl.IsValidEnsemble(list) {
		t.Errorf("an ensemble: %s", what)
	}
	for _, call := range joinCalls([]int{-9000, 0, 1, gone, math.MinInt}, []fraction{{0, 1}, {1, 2}, {1, 1}, {0, 0}, {2, 1}}) {
		f, ok := call.run(list)
		expectNoField(t, call.name+" of "+what, f, ok)
	}
	for _, n := range []int{-9000, 0, 1, 9000, gone} {
		for _, x := range []int{0, 1, -1} {
			a, b, ok := impl.ChanceAt(list, x, 0, n)
			expectNoPair(t, "ChanceAt of "+what, a, b, ok)
			a, b, ok = impl.RankOf(list, 0, x, n)
			expectNoPair(t, "RankOf of "+what, a, b, ok)
		}
		count, ok := impl.AgreeingCells(list, n)
		expectNoNumber(t, "AgreeingCells of "+what, count, ok)
	}
	for _, f := range append(slices.Clone(list[:min(len(list), 9)]), fieldOf(1, 1, 0), fieldOf(2, 2, filled(4, 1)...)) {
		i, sum, ok := impl.NearestMember(list, f)
		expectNoPair(t, "NearestMember of "+what, i, sum, ok)
	}
	for i := -1; i <= min(len(list), 9); i++ {
		rest, ok := impl.WithoutMember(list, i)
		expectNoMembers(t, "WithoutMember of "+what, rest, ok)
	}
}

func TestInvalidMembers(t *testing.T) {
	for name, bad := range invalidFields() {
		for _, count := range []int{1, 2, 3, 8, 9} {
			for at := range count {
				expectNoEnsemble(t, name+" at "+strconv.Itoa(at)+" of "+strconv.Itoa(count), placed(count, at, bad))
			}
		}
		expectNoEnsemble(t, "nothing but "+name, []impl.Field{bad, bad})
	}
}

func TestMembersOfEverySide(t *testing.T) {
	for wide := -1; wide <= 10; wide++ {
		for high := -1; high <= 10; high++ {
			f := fieldOf(wide, high, filled(max(wide*high, 0), 1)...)
			for _, list := range [][]impl.Field{{f}, {f, f}, slices.Repeat([]impl.Field{f}, 8)} {
				if wide >= 1 && wide <= 8 && high >= 1 && high <= 8 {
					checkEnsemble(t, list, f, []int{1, 2}, []fraction{{1, 2}})
				} else {
					expectNoEnsemble(t, strconv.Itoa(wide)+" by "+strconv.Itoa(high), list)
				}
			}
		}
	}
}

func TestMembersOfDifferentShapes(t *testing.T) {
	everyShape(func(wide int, high int) {
		everyShape(func(otherWide int, otherHigh int) {
			if wide == otherWide && high == otherHigh {
				return
			}
			for _, count := range []int{2, 3, 8} {
				for _, at := range []int{0, 1, count - 1} {
					list := slices.Repeat([]impl.Field{fieldOf(wide, high, filled(wide*high, 1)...)}, count)
					list[at] = fieldOf(otherWide, otherHigh, filled(otherWide*otherHigh, 1)...)
					if impl.IsValidEnsemble(list) {
						t.Error("an ensemble:", list)
					}
				}
			}
		})
	})
	shapes := [][2]int{{2, 3}, {3, 2}, {6, 1}, {1, 6}, {2, 2}, {3, 3}, {1, 1}, {8, 8}, {8, 7}, {7, 8}, {2, 8}, {4, 4}, {8, 2}}
	for _, p := range shapes {
		for _, q := range shapes {
			for at := range 3 {
				list := slices.Repeat([]impl.Field{fieldOf(p[0], p[1], filled(p[0]*p[1], 1)...)}, 3)
				list[at] = fieldOf(q[0], q[1], filled(q[0]*q[1], gone)...)
				if p != q {
					expectNoEnsemble(t, "different shapes", list)
				} else {
					checkEnsemble(t, list, list[0], []int{0, 1, 2}, []fraction{{1, 2}})
				}
			}
		}
	}
}

// ensembleMemory are ensembles with values, without any, and with some that are missing.
func ensembleMemory() [][]impl.Field {
	return [][]impl.Field{
		cellMembers(5), cellMembers(gone), cellMembers(5, gone, 3), cellMembers(3, 2, 1),
		{fieldOf(3, 2, 1, -7, gone, 5, 0, -90), fieldOf(3, 2, 6, 5, 4, 3, 2, 1), fieldOf(3, 2, filled(6, gone)...)},
		{countingField(8, 8), fieldOf(8, 8, filled(64, gone)...)},
		rowMembers(2, 8, 1, 7, 2, 6, 3, 5, 4, 4, 5, 3, 6, 2, 7, 1, 8),
	}
}

func TestJoinedMembersAndMemory(t *testing.T) {
	for _, list := range ensembleMemory() {
		for _, call := range joinCalls([]int{-9000, 0, 3}, fewFractions()) {
			checkMemory(t, algebraCall{call.name, len(list), call.run}, list)
		}
	}
}

// roomyMembers returns an ensemble with more cells behind the length of every member and more
// members behind its own, and the memory of all cells.
func roomyMembers(list []impl.Field) ([]impl.Field, [][]int) {
	roomed, rooms := []impl.Field{}, [][]int{}
	for _, f := range list {
		f, room := roomy(f)
		roomed = append(roomed, f)
		rooms = append(rooms, room)
	}
	more := append(roomed, roomed[0], impl.Field{Wide: -1})
	return more[:len(list)], rooms
}

func cloneLists(lists [][]int) [][]int {
	clones := make([][]int, len(lists))
	for i, list := range lists {
		clones[i] = slices.Clone(list)
	}
	return clones
}

func TestEnsemblesAreLeft(t *testing.T) {
	for _, members := range ensembleMemory() {
		list, rooms := roomyMembers(members)
		whole := list[:len(list)+2]
		headers, before := slices.Clone(whole), cloneLists(rooms)
		f, room := roomy(members[0])
		beforeF := slices.Clone(room)
		checkEnsemble(t, list, f, []int{-9000, 0, 2, 9000}, fewFractions())
		for _, n := range []int{gone, 9001, -1, 101} {
			impl.CountAtLeast(list, n)
			impl.QuantileField(list, n, n)
			impl.ChanceAt(list, n, 0, n)
			impl.RankOf(list, 0, n, n)
			impl.AgreeingCells(list, n)
			impl.WithoutMember(list, n)
		}
		if !sameLists(rooms, before) || !slices.Equal(room, beforeF) {
			t.Errorf("cells are modified: %v and %v", rooms, room)
		}
		for i, member := range whole {
			if !sameField(member, headers[i]) || len(member.Cells) > 0 && &member.Cells[0] != &headers[i].Cells[0] {
				t.Errorf("member %d is modified: %v", i, member)
			}
		}
	}
}

func cellsOfMembers(list []impl.Field) [][]int {
	lists := [][]int{}
	for _, f := range list {
		lists = append(lists, f.Cells)
	}
	return lists
}

func TestWithoutMemberAndMemory(t *testing.T) {
	for _, members := range ensembleMemory() {
		for i := range members {
			if len(members) == 1 {
				continue
			}
			list, rooms := roomyMembers(members)
			before := cloneLists(rooms)
			rest, _ := impl.WithoutMember(list, i)
			second, _ := impl.WithoutMember(list, i)
			if shareElements(rest, second) || shareElements(rest, list) {
				t.Error("two lists of members share memory")
			}
			for _, cells := range cellsOfMembers(rest) {
				for _, room := range rooms {
					if shareElements(cells, room) {
						t.Error("WithoutMember shares memory with its argument")
					}
				}
			}
			checkListsAndMemory(t, "WithoutMember", cellsOfMembers(rest), cellsOfMembers(second), nil)
			clear(second[:cap(second)])
			if !sameLists(rooms, before) {
				t.Errorf("the members change with the result: %v from %v", rooms, before)
			}
			for _, room := range rooms {
				for at := range room {
					room[at] = 88
				}
			}
			clear(list)
			expectMembers(t, "WithoutMember after the members are changed", rest, true, slices.Delete(slices.Clone(members), i, i+1))
		}
	}
}

func TestMembersThatShareMemory(t *testing.T) {
	f, room := roomy(fieldOf(3, 2, 1, -7, gone, 5, 0, -90))
	list := slices.Repeat([]impl.Field{f}, 4)
	checkEnsemble(t, list, f, []int{-7, 0, 5}, fewFractions())
	rest, ok := impl.WithoutMember(list, 1)
	if !ok || len(rest) != 3 {
		t.Fatal("three are left:", rest, ok)
	}
	for i, member := range rest {
		if shareElements(member.Cells, room) {
			t.Errorf("member %d shares memory with the argument", i)
		}
		for _, other := range rest[:i] {
			if shareElements(member.Cells, other.Cells) {
				t.Errorf("member %d shares memory with another one", i)
			}
		}
	}
}

func TestEnsemblesDoNotReadBehindTheLength(t *testing.T) {
	cells := []int{1, 2, 3, 4, 9000, -9000}
	short := fieldOf(2, 2, cells[:4]...)
	checkEnsemble(t, []impl.Field{short, short}, short, []int{1, 3, 9000}, fewFractions())
	expectNoEnsemble(t, "a member completed from behind its length", []impl.Field{short, fieldOf(2, 2, cells[:3]...)})
	expectNoEnsemble(t, "a member of six cells, of which four are there", []impl.Field{fieldOf(3, 2, cells[:4]...)})
	members := cellMembers(4, 2, 9, 7, 1, 0, 3, 5, 6)
	for size := range 9 {
		if size == 0 {
			expectNoEnsemble(t, "all members behind the length", members[:0])
			continue
		}
		checkEnsemble(t, members[:size], fieldOf(1, 1, 0), []int{0, 3, 7}, fewFractions())
	}
	i, sum, ok := impl.NearestMember(members[:1], fieldOf(1, 1, cells[1:2]...))
	expectPair(t, "NearestMember", i, sum, ok, 0, 2)
	i, sum, ok = impl.NearestMember(members[:1], fieldOf(1, 1, cells[:0]...))
	expectNoPair(t, "NearestMember of a cell behind the length", i, sum, ok)
}
