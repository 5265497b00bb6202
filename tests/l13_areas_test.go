package tests

import (
	"math/rand/v2"
	"slices"
	"strconv"
	"strings"
	"testing"

	"loop.example/g00889/impl"
)

// areaMap reads a map with a digit for every cell, "112/130".
func areaMap(s string) impl.AreaMap {
	rows := strings.Split(s, "/")
	m := impl.AreaMap{Wide: len(rows[0]), High: len(rows)}
	for _, digit := range strings.Join(rows, "") {
		m.Cells = append(m.Cells, int(digit-'0'))
	}
	return m
}

// mapOf returns a map with its cells as they are given, valid or not.
func mapOf(wide int, high int, cells ...int) impl.AreaMap {
	return impl.AreaMap{Wide: wide, High: high, Cells: cells}
}

func sameMap(a impl.AreaMap, b impl.AreaMap) bool {
	return a.Wide == b.Wide && a.High == b.High && slices.Equal(a.Cells, b.Cells)
}

// digits are the numbers of an area that fit into one, and no areas.
func digits() []int { return []int{-1, 0, 1, 2, 3, 4, 5, 6, 7, 8, 9, 10} }

func plainRegion(m impl.AreaMap, area int) []int {
	region := []int{}
	for i, cell := range m.Cells {
		if cell == area && area != 0 {
			region = append(region, i)
		}
	}
	return region
}

func plainThere(m impl.AreaMap) []int {
	there := []int{}
	for area := 1; area <= 9; area++ {
		if slices.Contains(m.Cells, area) {
			there = append(there, area)
		}
	}
	return there
}

// plainSides counts the pairs of cells beside each other or one above the other.
func plainSides(m impl.AreaMap, a int, b int) int {
	sides := 0
	for _, i := range plainRegion(m, a) {
		for _, k := range plainRegion(m, b) {
			if absolute(i%m.Wide-k%m.Wide)+absolute(i/m.Wide-k/m.Wide) == 1 {
				sides++
			}
		}
	}
	return sides
}

func plainNeighbors(m impl.AreaMap, area int) []int {
	neighbors := []int{}
	for _, other := range plainThere(m) {
		if other != area && plainSides(m, area, other) > 0 {
			neighbors = append(neighbors, other)
		}
	}
	return neighbors
}

func plainConnected(m impl.AreaMap, area int) bool {
	return len(plainParts(regionCase{m.Wide, m.High, plainRegion(m, area)})) == 1
}

func plainMerged(m impl.AreaMap, a int, b int) impl.AreaMap {
	merged := mapOf(m.Wide, m.High)
	for _, cell := range m.Cells {
		merged.Cells = append(merged.Cells, either(cell == b, a, cell))
	}
	return merged
}

// plainValues are those of a field in an area in ascending order.
func plainValues(m impl.AreaMap, area int, f impl.Field) []int {
	values := []int{}
	for _, i := range plainRegion(m, area) {
		if f.Cells[i] != gone {
			values = append(values, f.Cells[i])
		}
	}
	slices.Sort(values)
	return values
}

// plainAffected counts how many values each area needs.
func plainAffected(m impl.AreaMap, f impl.Field, threshold int, percent int) []int {
	affected := []int{}
	for _, area := range plainThere(m) {
		values := plainValues(m, area, f)
		needed := 1
		for 100*needed < percent*len(values) {
			needed++
		}
		if plainCount(values, threshold) >= needed {
			affected = append(affected, area)
		}
	}
	return affected
}

func expectMap(t *testing.T, what string, got impl.AreaMap, ok bool, want impl.AreaMap) {
	t.Helper()
	if !ok || !sameMap(got, want) {
		t.Errorf("%s = %v, %v, not %v", what, got, ok, want)
	}
}

func expectNoMerged(t *testing.T, m impl.AreaMap, a int, b int) {
	t.Helper()
	got, ok := impl.MergeAreas(m, a, b)
	if ok || got.Wide != 0 || got.High != 0 || len(got.Cells) != 0 {
		t.Errorf("MergeAreas of %v, %d and %d = %v, %v", m, a, b, got, ok)
	}
}

func expectConnected(t *testing.T, m impl.AreaMap, area int, want bool) {
	t.Helper()
	got, ok := impl.IsConnectedArea(m, area)
	if !ok || got != want {
		t.Errorf("IsConnectedArea of %v and %d = %v, %v, not %v", m, area, got, ok, want)
	}
}

func expectSides(t *testing.T, m impl.AreaMap, a int, b int, want int) {
	t.Helper()
	got, ok := impl.CommonSides(m, a, b)
	if !ok || got != want {
		t.Errorf("CommonSides of %v, %d and %d = %d, %v, not %d", m, a, b, got, ok, want)
	}
}

func expectNeighbors(t *testing.T, m impl.AreaMap, area int, want []int) {
	t.Helper()
	got, ok := impl.NeighborsOf(m, area)
	if !ok || !slices.Equal(got, want) {
		t.Errorf("NeighborsOf %v and %d = %v, %v, not %v", m, area, got, ok, want)
	}
}

func expectAreas(t *testing.T, m impl.AreaMap, want []int) {
	t.Helper()
	got, ok := impl.AreasOf(m)
	if !ok || !slices.Equal(got, want) {
		t.Errorf("AreasOf %v = %v, %v, not %v", m, got, ok, want)
	}
}

func expectSize(t *testing.T, m impl.AreaMap, area int, want int) {
	t.Helper()
	got, ok := impl.AreaCells(m, area)
	if !ok || got != want {
		t.Errorf("AreaCells of %v and %d = %d, %v, not %d", m, area, got, ok, want)
	}
}

func expectCoverage(t *testing.T, m impl.AreaMap, area int, f impl.Field, threshold int, want [2]int) {
	t.Helper()
	count, all, ok := impl.AreaCoverage(m, area, f, threshold)
	if !ok || count != want[0] || all != want[1] {
		t.Errorf("AreaCoverage of %v, %d, %v and %d = %d, %d, %v, not %v", m, area, f, threshold, count, all, ok, want)
	}
}

func expectAffected(t *testing.T, m impl.AreaMap, f impl.Field, threshold int, percent int, want []int) {
	t.Helper()
	got, ok := impl.AffectedAreas(m, f, threshold, percent)
	if !ok || !slices.Equal(got, want) {
		t.Errorf("AffectedAreas of %v, %v, %d and %d = %v, %v, not %v", m, f, threshold, percent, got, ok, want)
	}
}

// expectNoValues fails unless every function of a map and a field rejects its arguments.
func expectNoValues(t *testing.T, what string, m impl.AreaMap, area int, f impl.Field, threshold int) {
	t.Helper()
	count, all, ok := impl.AreaCoverage(m, area, f, threshold)
	expectNoPair(t, "AreaCoverage for "+what, count, all, ok)
	most, ok := impl.AreaMaximum(m, area, f)
	expectNoNumber(t, "AreaMaximum for "+what, most, ok)
}

func expectNoAffected(t *testing.T, what string, m impl.AreaMap, f impl.Field, threshold int, percent int) {
	t.Helper()
	areas, ok := impl.AffectedAreas(m, f, threshold, percent)
	expectNoElements(t, "AffectedAreas for "+what, areas, ok)
}

// expectNotThere fails unless every function of an area rejects it. Every other area that is
// there is in others.
func expectNotThere(t *testing.T, m impl.AreaMap, area int, others ...int) {
	t.Helper()
	what := strconv.Itoa(area)
	n, ok := impl.AreaCells(m, area)
	expectNoNumber(t, "AreaCells of "+what, n, ok)
	areas, ok := impl.NeighborsOf(m, area)
	expectNoElements(t, "NeighborsOf "+what, areas, ok)
	connected, ok := impl.IsConnectedArea(m, area)
	if ok || connected {
		t.Errorf("IsConnectedArea of %v and %d = %v, %v", m, area, connected, ok)
	}
	for _, value := range []int{gone, 0, 5} {
		expectNoValues(t, what, m, area, fieldOf(m.Wide, m.High, filled(len(m.Cells), value)...), 0)
	}
	for _, other := range append(others, area) {
		n, ok := impl.CommonSides(m, area, other)
		expectNoNumber(t, "CommonSides from "+what, n, ok)
		n, ok = impl.CommonSides(m, other, area)
		expectNoNumber(t, "CommonSides to "+what, n, ok)
		expectNoMerged(t, m, area, other)
		expectNoMerged(t, m, other, area)
	}
}

// expectInvalidMap fails unless every function rejects a map, with all areas that its cells name.
func expectInvalidMap(t *testing.T, m impl.AreaMap) {
	t.Helper()
	if impl.IsValidAreaMap(m) {
		t.Errorf("%v is valid", m)
	}
	areas, ok := impl.AreasOf(m)
	expectNoElements(t, "AreasOf an invalid map", areas, ok)
	for area := range 4 {
		expectNotThere(t, m, area, 1, 2)
	}
	for _, area := range m.Cells[:min(len(m.Cells), 9)] {
		expectNotThere(t, m, area, 1, 2, 9)
	}
	for _, f := range []impl.Field{fieldOf(m.Wide, m.High, filled(len(m.Cells), 5)...), fieldOf(1, 1, 5), fieldOf(3, 2, filled(6, 5)...)} {
		expectNoValues(t, "an invalid map", m, 1, f, 0)
		expectNoAffected(t, "an invalid map", m, f, 0, 1)
	}
}

// checkAreas holds every function of a map alone against the tests' own, for some areas.
func checkAreas(t *testing.T, m impl.AreaMap, areas []int) {
	t.Helper()
	if !impl.IsValidAreaMap(m) {
		t.Errorf("%v is not valid", m)
	}
	there := plainThere(m)
	expectAreas(t, m, there)
	for _, a := range areas {
		if !slices.Contains(there, a) {
			expectNotThere(t, m, a, there...)
			continue
		}
		expectSize(t, m, a, len(plainRegion(m, a)))
		expectNeighbors(t, m, a, plainNeighbors(m, a))
		expectConnected(t, m, a, plainConnected(m, a))
		for _, b := range there {
			if a == b {
				n, ok := impl.CommonSides(m, a, b)
				expectNoNumber(t, "CommonSides of an area and itself", n, ok)
				expectNoMerged(t, m, a, b)
				continue
			}
			expectSides(t, m, a, b, plainSides(m, a, b))
			merged, ok := impl.MergeAreas(m, a, b)
			expectMap(t, "MergeAreas", merged, ok, plainMerged(m, a, b))
		}
	}
}

// checkMerging holds the promise: merged areas have the cells of both, and connected areas that
// touch stay connected. Those that do not touch are not connected when they are merged.
func checkMerging(t *testing.T, m impl.AreaMap) {
	t.Helper()
	there, _ := impl.AreasOf(m)
	for _, a := range there {
		for _, b := range there {
			if a == b {
				continue
			}
			merged, ok := impl.MergeAreas(m, a, b)
			if !ok || !impl.IsValidAreaMap(merged) {
				t.Errorf("MergeAreas of %v, %d and %d = %v, %v", m, a, b, merged, ok)
				continue
			}
			cellsA, _ := impl.AreaCells(m, a)
			cellsB, _ := impl.AreaCells(m, b)
			expectSize(t, merged, a, cellsA+cellsB)
			expectNotThere(t, merged, b, a)
			expectAreas(t, merged, slices.DeleteFunc(slices.Clone(there), func(area int) bool { return area == b }))
			for i, cell := range m.Cells {
				if merged.Cells[i] != either(cell == b, a, cell) {
					t.Errorf("cell %d of %v is %d with %d and %d merged", i, m, merged.Cells[i], a, b)
				}
			}
			connectedA, _ := impl.IsConnectedArea(m, a)
			connectedB, _ := impl.IsConnectedArea(m, b)
			sides, _ := impl.CommonSides(m, a, b)
			if connectedA && connectedB {
				expectConnected(t, merged, a, sides > 0)
			}
		}
	}
}

// checkNeighbors holds that neighbors are mutual and have a side in common, and others none.
func checkNeighbors(t *testing.T, m impl.AreaMap) {
	t.Helper()
	there, _ := impl.AreasOf(m)
	for _, a := range there {
		of, _ := impl.NeighborsOf(m, a)
		for _, b := range there {
			back, _ := impl.NeighborsOf(m, b)
			sides, _ := impl.CommonSides(m, a, b)
			others, _ := impl.CommonSides(m, b, a)
			are := slices.Contains(of, b)
			if are != slices.Contains(back, a) || are != (sides > 0) || sides != others {
				t.Errorf("%v: %d has the neighbors %v, %d has %v, and %d and %d sides are in common", m, a, of, b, back, sides, others)
			}
		}
	}
}

// checkValues holds every function of a map and a field against the tests' own.
func checkValues(t *testing.T, m impl.AreaMap, f impl.Field, thresholds []int, percents []int) {
	t.Helper()
	for _, area := range plainThere(m) {
		values := plainValues(m, area, f)
		most, ok := impl.AreaMaximum(m, area, f)
		if len(values) == 0 {
			expectNoNumber(t, "AreaMaximum", most, ok)
		} else {
			expectNumber(t, "AreaMaximum", most, ok, values[len(values)-1])
		}
		for _, threshold := range thresholds {
			expectCoverage(t, m, area, f, threshold, [2]int{plainCount(values, threshold), len(values)})
		}
	}
	for _, threshold := range thresholds {
		for _, percent := range percents {
			expectAffected(t, m, f, threshold, percent, plainAffected(m, f, threshold, percent))
		}
	}
}

func TestLimitsOfAreas(t *testing.T) {
	if impl.MaxArea != 9 {
		t.Error("MaxArea", impl.MaxArea)
	}
}

func TestAreasOfEveryShape(t *testing.T) {
	random := rand.New(rand.NewPCG(13, 1))
	everyShape(func(wide int, high int) {
		for _, cells := range [][]int{
			filled(wide*high, 0), filled(wide*high, 1), filled(wide*high, 9), someAreas(random, wide, high, 9).Cells, someAreas(random, wide, high, 2).Cells,
		} {
			m := mapOf(wide, high, cells...)
			checkAreas(t, m, digits())
			checkNeighbors(t, m)
			checkMerging(t, m)
			f := sparseField(random, wide, high, 3, 30)
			checkValues(t, m, f, []int{-9000, -1, 0, 3, 4, 9000}, []int{1, 33, 50, 100})
		}
	})
}

func TestMapsOfNoShape(t *testing.T) {
	expectInvalidMap(t, impl.AreaMap{})
	for _, bad := range badSides() {
		for _, side := range []int{1, 2, 8, bad} {
			// as many cells as the sides ask for, where these are few
			size := 1
			if product := bad * side; bad > -100 && bad < 100 && product > 0 {
				size = product
			}
			for _, cells := range [][]int{{}, filled(size, 1), filled(size+1, 1)} {
				expectInvalidMap(t, mapOf(bad, side, cells...))
				expectInvalidMap(t, mapOf(side, bad, cells...))
			}
		}
	}
	expectInvalidMap(t, mapOf(16, 4, filled(64, 1)...))
	expectInvalidMap(t, mapOf(1<<32, 1<<32))
	expectInvalidMap(t, mapOf(3, -6148914691236517205, 1))
	expectInvalidMap(t, mapOf(-2, -3, filled(6, 1)...))
}

func TestNumbersOfCellsOfMaps(t *testing.T) {
	everyShape(func(wide int, high int) {
		size := wide * high
		for _, count := range []int{0, 1, size - 1, size + 1, 2 * size, 64, 65} {
			if count != size {
				expectInvalidMap(t, mapOf(wide, high, filled(count, 1)...))
				expectInvalidMap(t, mapOf(wide, high, filled(count, 0)...))
			}
		}
		expectInvalidMap(t, mapOf(wide, high))
	})
	expectInvalidMap(t, mapOf(8, 8, make([]int, 100000)...))
}

// noAreas are not even the number of the cells outside.
func noAreas() []int {
	return append(slices.Concat(farNumbers(), badCells()), -1, -2, -9, 10, 11, 16, 64, 100, 255, 256, 257, 1<<16+9, gone)
}

func TestAreasOutOfRange(t *testing.T) {
	for _, bad := range noAreas() {
		expectInvalidMap(t, mapOf(1, 1, bad))
		for at := range 6 {
			m := areaMap("112/130")
			m.Cells[at] = bad
			expectInvalidMap(t, m)
		}
		corner := mapOf(8, 8, filled(64, 9)...)
		corner.Cells[63] = bad
		expectInvalidMap(t, corner)
		for _, s := range []string{"0", "1", "9", "00/00", "112/130", "19/91", "123456789"} {
			m := areaMap(s)
			expectNotThere(t, m, bad, append(plainThere(m), 0, 4, -bad, bad+1)...)
		}
	}
}

func TestEveryNumberAsTheCellOfAMap(t *testing.T) {
	for n := -300; n <= 300; n++ {
		m := mapOf(2, 1, n, 1)
		if n < 0 || n > 9 {
			expectInvalidMap(t, m)
			continue
		}
		checkAreas(t, m, digits())
	}
}

func TestCellsOutsideAreNoArea(t *testing.T) {
	for _, s := range []string{"0", "00", "0/0", "000/000/000", strings.Repeat("00000000/", 7) + "00000000"} {
		m := areaMap(s)
		expectAreas(t, m, nil)
		checkAreas(t, m, digits())
		f := fieldOf(m.Wide, m.High, filled(len(m.Cells), 7)...)
		expectAffected(t, m, f, 7, 1, nil)
		expectAffected(t, m, f, -9000, 100, nil)
	}
	expectAreas(t, areaMap("090/000"), []int{9})
	expectAreas(t, areaMap("102/000"), []int{1, 2})
	expectAreas(t, areaMap("9182/7364"), []int{1, 2, 3, 4, 6, 7, 8, 9})
	expectAreas(t, areaMap("987/654/321"), []int{1, 2, 3, 4, 5, 6, 7, 8, 9})
	for _, s := range []string{"10", "01/00", "000/010/000", "101/010/101"} {
		m := areaMap(s)
		expectNeighbors(t, m, 1, nil)
		expectNotThere(t, m, 0, 1)
	}
}

func TestAreasThatAreNotThere(t *testing.T) {
	for _, s := range []string{"1", "9", "12", "1020", "112/133", "357/753", "12345678", "23456789"} {
		m := areaMap(s)
		there := plainThere(m)
		for _, area := range digits() {
			if !slices.Contains(there, area) {
				expectNotThere(t, m, area, append(there, digits()...)...)
			}
		}
	}
}

func TestNeighborsByHand(t *testing.T) {
	for _, c := range []struct {
		m    string
		area int
		want string
	}{
		// in a corner, at the border, in the middle
		{"123/456/789", 1, "2 4"}, {"123/456/789", 3, "2 6"}, {"123/456/789", 7, "4 8"}, {"123/456/789", 9, "6 8"},
		{"123/456/789", 2, "1 3 5"}, {"123/456/789", 4, "1 5 7"}, {"123/456/789", 6, "3 5 9"}, {"123/456/789", 8, "5 7 9"}, {"123/456/789", 5, "2 4 6 8"},
		{"987/654/321", 5, "2 4 6 8"}, {"987/654/321", 9, "6 8"}, {"937/154/821", 5, "2 3 4 1"},
		// a row and a column
		{"12345", 1, "2"}, {"12345", 3, "2 4"}, {"12345", 5, "4"}, {"1/2/3", 2, "1 3"}, {"1/2/3", 3, "2"}, {"1", 1, ""}, {"111/111", 1, ""},
		// not around the end of a row
		{"112/311", 2, "1"}, {"112/311", 3, "1"}, {"002/300", 2, ""}, {"002/300", 3, ""}, {"0012/3400", 2, "1"}, {"0012/3400", 3, "4"},
		// only cells outside or the border of the map
		{"000/010/000", 1, ""}, {"01/00", 1, ""}, {"102", 1, ""}, {"1/0/2", 2, ""}, {"1002/1002", 1, ""}, {"110/100/002", 2, ""},
		// corners only
		{"12/21", 1, "2"}, {"10/02", 1, ""}, {"01/20", 2, ""}, {"130/302", 1, "3"}, {"130/342", 1, "3"}, {"102/030/405", 3, ""}, {"10/03", 3, ""},
		// of several pieces
		{"1213", 1, "2 3"}, {"1203", 1, "2"}, {"120/000/013", 1, "2 3"}, {"120/003/041", 1, "2 3 4"}, {"12/31", 1, "2 3"}, {"1020/0000/3014", 1, "4"}, {"2103/0000/4105", 1, "2 4"},
		// around another one, and around cells outside
		{"111/121/111", 1, "2"}, {"111/121/111", 2, "1"}, {"111/101/111", 1, ""}, {"2222/2112/2102/2222", 1, "2"}, {"11111/10001/10201/10001/11111", 1, ""}, {"11111/10001/10201/10001/11111", 2, ""},
		{"11111/12221/12321/12221/11111", 2, "1 3"}, {"11111/12221/12321/12221/11111", 1, "2"}, {"11111/12221/12321/12221/11111", 3, "2"},
	} {
		want := indices(c.want)
		slices.Sort(want)
		expectNeighbors(t, areaMap(c.m), c.area, want)
	}
}

func TestCommonSidesByHand(t *testing.T) {
	for _, c := range []struct {
		m    string
		a, b int
		want int
	}{
		{"12", 1, 2, 1}, {"1/2", 1, 2, 1}, {"112/132", 1, 3, 2}, {"112/132", 3, 2, 1}, {"112/132", 1, 2, 1}, {"12/12", 1, 2, 2}, {"12/21", 1, 2, 4}, {"11/22", 1, 2, 2}, {"91/19", 1, 9, 4},
		// several pieces
		{"121", 1, 2, 2}, {"12121", 1, 2, 4}, {"1221", 1, 2, 2}, {"121/000/212", 1, 2, 4}, {"1020/0000/0012", 1, 2, 1}, {"1012/0000/2101", 1, 2, 2}, {"10201", 1, 2, 0},
		// around another one
		{"111/121/111", 1, 2, 4}, {"1111/1221/1221/1111", 1, 2, 8}, {"1111/1221/1111", 1, 2, 6}, {"11/21", 1, 2, 2}, {"12/11", 1, 2, 2}, {"111/121", 1, 2, 3},
		{"11111/12221/12321/12221/11111", 1, 2, 12}, {"11111/12221/12321/12221/11111", 3, 2, 4}, {"11111/12221/12321/12221/11111", 1, 3, 0}, {"121/212/121", 1, 2, 12},
		// not touching, or touching at a corner only
		{"102", 1, 2, 0}, {"10/02", 1, 2, 0}, {"01/20", 1, 2, 0}, {"132", 1, 2, 0}, {"001/200", 1, 2, 0}, {"1003/4002", 1, 2, 0}, {"13/32", 1, 2, 0},
	} {
		m := areaMap(c.m)
		expectSides(t, m, c.a, c.b, c.want)
		expectSides(t, m, c.b, c.a, c.want)
		for _, area := range []int{c.a, c.b} {
			n, ok := impl.CommonSides(m, area, area)
			expectNoNumber(t, "CommonSides of an area and itself", n, ok)
		}
	}
	checkered := impl.AreaMap{Wide: 8, High: 8}
	for i := range 64 {
		checkered.Cells = append(checkered.Cells, (i%8+i/8)%2+1)
	}
	expectSides(t, checkered, 1, 2, 112)
	expectSides(t, checkered, 2, 1, 112)
}

func TestConnectedAreasByHand(t *testing.T) {
	for _, c := range []struct {
		m    string
		want bool
	}{
		{"1", true}, {"11", true}, {"1/1", true}, {"11111111", true}, {"1/1/1/1/1/1/1/1", true}, {"010", true}, {"012/000", true},
		{"101", false}, {"1/0/1", false}, {"121", false}, {"1/2/1", false}, {"1111/1001", true}, {"1101", false}, {"10000001", false},
		// corners only, and the ends of rows
		{"10/01", false}, {"01/10", false}, {"12/21", false}, {"21/12", false}, {"110/011", true}, {"110/001", false}, {"001/100", false}, {"0011/1100", false}, {"1001/1001", false}, {"11/01/11", true},
		{"101/010/101", false}, {"101/111/101", true}, {"111/101/111", true}, {"111/101/101", true}, {"111/101/110", true}, {"111/100/111", true}, {"111/000/111", false}, {"111/101/011", true}, {"110/101/011", false},
		// rings, one around another one, and spirals
		{"1111/1221/1221/1111", true}, {"11111/10001/10101/10001/11111", false}, {"11111/10001/10111/10001/11111", true}, {"11111/00001/11101/10001/11111", true}, {"11111/10001/10101/10011/11110", false},
		{"11111111/00000001/11111101/10000101/10110101/10011101/10000001/11111111", true}, {"11111111/00000001/11111101/10000101/10100101/10111101/10000001/11111111", true},
		{"11111111/00000001/11111101/10000101/10110101/10000101/10000001/11111111", false},
		{"10101011/10101001/10101101/10101001/10101011/10101010/10101010/11101110", false}, {"11101110/10101010/10101010/10101010/10101010/10101010/10101010/10111011", true},
	} {
		m := areaMap(c.m)
		expectConnected(t, m, 1, c.want)
		// the same area with another number, and among other areas
		others := impl.AreaMap{Wide: m.Wide, High: m.High}
		for _, cell := range m.Cells {
			others.Cells = append(others.Cells, [3]int{8, 9, 7}[cell])
		}
		expectConnected(t, others, 9, c.want)
	}
}

func TestEveryPathAroundTheMap(t *testing.T) {
	ring := mapOf(8, 8)
	path := []int{}
	for i := range 64 {
		border := i%8 == 0 || i%8 == 7 || i/8 == 0 || i/8 == 7
		ring.Cells = append(ring.Cells, either(border, 4, 0))
		if border {
			path = append(path, i)
		}
	}
	expectConnected(t, ring, 4, true)
	for _, first := range path {
		one := mapOf(8, 8, slices.Clone(ring.Cells)...)
		one.Cells[first] = 5
		expectConnected(t, one, 4, true)
		for _, second := range path {
			two := mapOf(8, 8, slices.Clone(one.Cells)...)
			two.Cells[second] = 5
			expectConnected(t, two, 4, plainConnected(two, 4))
			expectConnected(t, two, 5, plainConnected(two, 5))
		}
	}
}

func TestMergedAreasByHand(t *testing.T) {
	for _, c := range []struct {
		m    string
		a, b int
		want string
	}{
		{"112/132", 1, 3, "112/112"}, {"112/132", 3, 1, "332/332"}, {"112/132", 1, 2, "111/131"}, {"112/132", 2, 1, "222/232"}, {"112/132", 2, 3, "112/122"}, {"112/132", 3, 2, "113/133"},
		{"12", 1, 2, "11"}, {"12", 2, 1, "22"}, {"1/2", 1, 2, "1/1"}, {"19", 9, 1, "99"}, {"19", 1, 9, "11"}, {"102", 1, 2, "101"}, {"102", 2, 1, "202"}, {"10/02", 1, 2, "10/01"},
		{"121/212", 1, 2, "111/111"}, {"1203/0210/3002", 2, 3, "1202/0210/2002"}, {"111/121/111", 2, 1, "222/222/222"}, {"123/456/789", 5, 1, "523/456/789"}, {"123/456/789", 1, 5, "123/416/789"},
	} {
		merged, ok := impl.MergeAreas(areaMap(c.m), c.a, c.b)
		expectMap(t, "MergeAreas of "+c.m, merged, ok, areaMap(c.want))
		for _, area := range []int{c.a, c.b} {
			expectNoMerged(t, areaMap(c.m), area, area)
		}
		checkMerging(t, areaMap(c.m))
	}
	// areas that were not connected may become so, and stay apart
	for s, want := range map[string]bool{"121": true, "12/21": true, "1201": false, "1021": false, "1213": true, "2103": true, "102/020/301": false, "111/121/111": true} {
		merged, _ := impl.MergeAreas(areaMap(s), 1, 2)
		expectConnected(t, merged, 1, want)
	}
}

func TestAllAreasMergedOneByOne(t *testing.T) {
	random := rand.New(rand.NewPCG(13, 2))
	for range 300 {
		m := someAreas(random, random.IntN(8)+1, random.IntN(8)+1, 9)
		there := plainThere(m)
		random.Shuffle(len(there), func(i int, k int) { there[i], there[k] = there[k], there[i] })
		merged, cells := m, 0
		for i, area := range there {
			cells += len(plainRegion(m, area))
			if i > 0 {
				next, ok := impl.MergeAreas(merged, there[0], area)
				expectMap(t, "MergeAreas", next, ok, plainMerged(merged, there[0], area))
				merged = next
			}
			expectSize(t, merged, there[0], cells)
		}
		if len(there) > 0 {
			expectAreas(t, merged, there[:1])
			expectNeighbors(t, merged, there[0], nil)
		}
	}
}

func TestValuesOfAreasByHand(t *testing.T) {
	m := areaMap("112/132")
	f := grid("5 10 0/. 7 20")
	for _, c := range []struct{ area, threshold, count, all int }{
		{1, 5, 2, 2}, {1, 6, 1, 2}, {1, 10, 1, 2}, {1, 11, 0, 2}, {1, -9000, 2, 2}, {1, 9000, 0, 2}, {2, 0, 2, 2}, {2, 1, 1, 2}, {2, 20, 1, 2}, {2, 21, 0, 2}, {3, 7, 1, 1}, {3, 8, 0, 1}, {3, -1, 1, 1},
	} {
		expectCoverage(t, m, c.area, f, c.threshold, [2]int{c.count, c.all})
	}
	for area, want := range map[int]int{1: 10, 2: 20, 3: 7} {
		most, ok := impl.AreaMaximum(m, area, f)
		expectNumber(t, "AreaMaximum", most, ok, want)
	}
	for _, c := range []struct {
		m, f string
		want int
	}{
		{"1", "-9000", -9000}, {"1", "9000", 9000}, {"1", "0", 0}, {"11", ". -5", -5}, {"11", "-5 .", -5}, {"101", "-7 8 -9", -7}, {"121", "-9 8 -7", -7}, {"01/10", "5 -1/-2 5", -1}, {"111", "-1 -1 -1", -1},
		{"11/11", "1 2/3 4", 4}, {"11/11", "4 3/2 1", 4}, {"11/11", "1 4/2 3", 4}, {"11/10", ". ./-9000 9", -9000},
	} {
		most, ok := impl.AreaMaximum(areaMap(c.m), 1, grid(c.f))
		expectNumber(t, "AreaMaximum of "+c.f, most, ok, c.want)
	}
}

func TestAreasWithoutValues(t *testing.T) {
	for _, c := range []struct{ m, f string }{{"1", "."}, {"112", ". . 5"}, {"121", ". 5 ."}, {"101", ". 5 ."}, {"11/11", ". ./. ."}, {"112/102", ". . 1/. 9 2"}} {
		m, f := areaMap(c.m), grid(c.f)
		for _, threshold := range []int{-9000, -1, 0, 5, 9000} {
			expectCoverage(t, m, 1, f, threshold, [2]int{0, 0})
		}
		most, ok := impl.AreaMaximum(m, 1, f)
		expectNoNumber(t, "AreaMaximum of "+c.f, most, ok)
		for percent := 1; percent <= 100; percent++ {
			expectAffected(t, m, f, -9000, percent, plainThere(m)[1:])
		}
	}
}

func TestThresholdsOfAreas(t *testing.T) {
	m, f := areaMap("1111/1112"), grid("-9000 . -1 5/5 8999 9000 .")
	for _, c := range []struct{ threshold, count int }{
		{-9000, 6}, {-8999, 5}, {-2, 5}, {-1, 5}, {0, 4}, {4, 4}, {5, 4}, {6, 2}, {8998, 2}, {8999, 2}, {9000, 1},
	} {
		expectCoverage(t, m, 1, f, c.threshold, [2]int{c.count, 6})
		expectCoverage(t, m, 2, f, c.threshold, [2]int{0, 0})
		for percent := 1; percent <= 100; percent++ {
			expectAffected(t, m, f, c.threshold, percent, either(c.count*100 >= percent*6, []int{1}, nil))
		}
	}
	for _, bad := range noThresholds() {
		for area := -1; area <= 3; area++ {
			count, all, ok := impl.AreaCoverage(m, area, f, bad)
			expectNoPair(t, "AreaCoverage for "+strconv.Itoa(bad), count, all, ok)
		}
		expectNoAffected(t, "the threshold "+strconv.Itoa(bad), m, f, bad, 1)
		expectNoAffected(t, "the threshold "+strconv.Itoa(bad), areaMap("00"), grid("1 2"), bad, 1)
	}
}

func TestPercentsByHand(t *testing.T) {
	m := areaMap("112/132")
	f := grid("5 10 0/. 7 20")
	for _, c := range []struct {
		threshold, percent int
		want               string
	}{
		{10, 50, "1 2"}, {10, 51, ""}, {10, 1, "1 2"}, {7, 50, "1 2 3"}, {7, 100, "3"}, {5, 100, "1 3"}, {0, 100, "1 2 3"}, {1, 51, "1 3"}, {20, 50, "2"}, {21, 1, ""}, {-9000, 100, "1 2 3"}, {9000, 1, ""},
	} {
		expectAffected(t, m, f, c.threshold, c.percent, indices(c.want))
	}
	// area 2 has no values, and area 4 no cells
	expectAffected(t, areaMap("1223"), grid("1 . . 2"), -9000, 1, []int{1, 3})
	expectAffected(t, areaMap("3221"), grid("1 . . 2"), 2, 100, []int{1})
	for _, bad := range append(noAreas(), 0, 101, 102, 200) {
		if bad >= 1 && bad <= 100 {
			continue
		}
		for _, s := range []string{"112/132", "000/000"} {
			expectNoAffected(t, "the percent "+strconv.Itoa(bad), areaMap(s), f, 5, bad)
		}
	}
}

// TestSharesOfEveryPercent looks at every share of every number of values, which some percents
// are reached by exactly, and some missed by less than one.
func TestSharesOfEveryPercent(t *testing.T) {
	for all := 1; all <= 64; all++ {
		m := mapOf(8, 8, filled(64, 1)...)
		f := fieldOf(8, 8, filled(64, gone)...)
		for i := range all {
			f.Cells[i] = 0
		}
		for count := 0; count <= all; count++ {
			if count > 0 {
				f.Cells[count-1] = 1
			}
			expectCoverage(t, m, 1, f, 1, [2]int{count, all})
			// the greatest percent that is reached, and the next one
			reached := 0
			for (reached+1)*all <= count*100 {
				reached++
			}
			for _, percent := range []int{1, reached, reached + 1, 50, 99, 100} {
				if percent >= 1 && percent <= 100 {
					expectAffected(t, m, f, 1, percent, either(percent <= reached, []int{1}, nil))
				}
			}
		}
	}
}

func TestFieldsOfAnotherSize(t *testing.T) {
	everyShape(func(wide int, high int) {
		m := mapOf(wide, high, filled(wide*high, 1)...)
		everyShape(func(across int, down int) {
			f := fieldOf(across, down, filled(across*down, 5)...)
			if across == wide && down == high {
				checkValues(t, m, f, []int{5, 6}, []int{100})
				return
			}
			expectNoValues(t, "a field of another size", m, 1, f, 5)
			expectNoAffected(t, "a field of another size", m, f, 5, 100)
			expectNoAffected(t, "a field of another size", mapOf(wide, high, filled(wide*high, 0)...), f, 5, 100)
		})
	})
	expectNoValues(t, "a field of the same cells", areaMap("111/111"), 1, grid("5 5/5 5/5 5"), 5)
	expectNoAffected(t, "a field of the same cells", areaMap("111111"), grid("5 5/5 5/5 5"), 5, 50)
}

func TestAreasRejectFields(t *testing.T) {
	for what, f := range invalidFields() {
		for _, m := range []impl.AreaMap{areaMap("1"), areaMap("12/21"), areaMap("0000/0001"), mapOf(8, 8, filled(64, 1)...), mapOf(f.Wide, f.High, filled(len(f.Cells), 1)...)} {
			expectNoValues(t, what, m, 1, f, 5)
			expectNoAffected(t, what, m, f, 5, 50)
		}
	}
	// the bad cell need not be in the area, nor in any
	for _, bad := range badCells() {
		for at := range 3 {
			f := grid("5 5 5")
			f.Cells[at] = bad
			for _, s := range []string{"120", "012", "201", "100", "111", "000"} {
				for area := range 3 {
					expectNoValues(t, strconv.Itoa(bad), areaMap(s), area, f, 5)
				}
				expectNoAffected(t, strconv.Itoa(bad), areaMap(s), f, 5, 50)
			}
		}
	}
}

// everyMap calls a function with all maps of a shape over some areas.
func everyMap(wide int, high int, areas []int, call func(m impl.AreaMap)) {
	listsOver(areas, wide*high, func(cells []int) { call(mapOf(wide, high, slices.Clone(cells)...)) })
}

func TestEverySmallMap(t *testing.T) {
	for _, shape := range [][2]int{{1, 1}, {2, 1}, {1, 2}, {3, 1}, {1, 3}, {2, 2}, {4, 1}, {1, 4}, {5, 1}, {1, 5}, {3, 2}, {2, 3}} {
		everyMap(shape[0], shape[1], []int{0, 1, 2, 3}, func(m impl.AreaMap) {
			checkAreas(t, m, []int{0, 1, 2, 3})
			checkNeighbors(t, m)
			checkMerging(t, m)
		})
	}
	everyMap(2, 1, []int{0, 1, 2, 3, 4, 5, 6, 7, 8, 9}, func(m impl.AreaMap) { checkAreas(t, m, digits()) })
	everyMap(1, 3, []int{0, 1, 2, 3, 4, 5, 6, 7, 8, 9}, func(m impl.AreaMap) { checkAreas(t, m, []int{0, 1, 5, 9}) })
}

func TestEveryMapOfTwoAreas(t *testing.T) {
	everyMap(3, 3, []int{0, 4, 9}, func(m impl.AreaMap) {
		checkAreas(t, m, []int{4, 9})
		checkMerging(t, m)
	})
	for _, shape := range [][2]int{{4, 3}, {3, 4}, {6, 2}} {
		everyMap(shape[0], shape[1], []int{6, 2}, func(m impl.AreaMap) {
			checkAreas(t, m, []int{2, 6})
			checkMerging(t, m)
		})
	}
}

func TestEverySmallMapAndField(t *testing.T) {
	for _, shape := range [][2]int{{1, 1}, {3, 1}, {1, 3}, {2, 2}} {
		everyMap(shape[0], shape[1], []int{0, 1, 2}, func(m impl.AreaMap) {
			listsOver([]int{gone, -4, 0, 3}, len(m.Cells), func(cells []int) {
				checkValues(t, m, fieldOf(m.Wide, m.High, cells...), []int{-4, 0, 1}, []int{1, 33, 34, 50, 51, 67, 100})
			})
		})
	}
}

// someAreas has random cells, of which many lie beside one of the same area.
func someAreas(random *rand.Rand, wide int, high int, most int) impl.AreaMap {
	m := impl.AreaMap{Wide: wide, High: high}
	for i := range wide * high {
		area := random.IntN(most + 1)
		if i > 0 && random.IntN(3) > 0 {
			area = m.Cells[max(i-1-random.IntN(2)*(wide-1), 0)]
		}
		m.Cells = append(m.Cells, area)
	}
	return m
}

func TestManyMaps(t *testing.T) {
	random := rand.New(rand.NewPCG(13, 3))
	for range 1500 {
		m := someAreas(random, random.IntN(8)+1, random.IntN(8)+1, random.IntN(9)+1)
		checkAreas(t, m, []int{0, 1, 2, 8, 9, random.IntN(10)})
		checkNeighbors(t, m)
		checkMerging(t, m)
		size := []int{1, 4, 9000}[random.IntN(3)]
		f := sparseField(random, m.Wide, m.High, size, random.IntN(101))
		thresholds := []int{-9000, 0, 1, size, random.IntN(2*size+1) - size}
		checkValues(t, m, f, thresholds, []int{1, random.IntN(100) + 1, random.IntN(100) + 1, 50, 100})
	}
}

// TestValuesOfAllAreasAddUp holds that every cell is in one area or outside.
func TestValuesOfAllAreasAddUp(t *testing.T) {
	random := rand.New(rand.NewPCG(13, 4))
	for range 300 {
		m := someAreas(random, random.IntN(8)+1, random.IntN(8)+1, 9)
		f := sparseField(random, m.Wide, m.High, 5, 30)
		cells, counts, alls := 0, 0, 0
		there, _ := impl.AreasOf(m)
		for _, area := range there {
			n, _ := impl.AreaCells(m, area)
			count, all, _ := impl.AreaCoverage(m, area, f, 1)
			cells, counts, alls = cells+n, counts+count, alls+all
		}
		for i, cell := range m.Cells {
			inside := cell != 0
			cells -= either(inside, 1, 0)
			counts -= either(inside && f.Cells[i] >= 1, 1, 0)
			alls -= either(inside && f.Cells[i] != gone, 1, 0)
		}
		if cells != 0 || counts != 0 || alls != 0 {
			t.Errorf("%v and %v: %d, %d and %d cells too many", m, f, cells, counts, alls)
		}
	}
}

// roomyMap returns a map with more cells behind its length.
func roomyMap(m impl.AreaMap) (impl.AreaMap, []int) {
	room := append(slices.Clone(m.Cells), 1, 77, -1)
	return mapOf(m.Wide, m.High, room[:len(m.Cells)]...), room
}

func TestAreasAndMemory(t *testing.T) {
	for _, s := range []string{"12", "112/132", "121/212", "123/456/789", "1020/0302", "98/76/54/32/11", "11111111/22222222/33333333/44444444/55555555/66666666/77777777/88888888"} {
		m, room := roomyMap(areaMap(s))
		f, fieldRoom := roomy(fieldOf(m.Wide, m.High, filled(len(m.Cells), 5)...))
		before, fieldBefore := slices.Clone(room), slices.Clone(fieldRoom)
		there := ownResult(t, "AreasOf", func() ([]int, bool) { return impl.AreasOf(m) })
		neighbors := ownResult(t, "NeighborsOf", func() ([]int, bool) { return impl.NeighborsOf(m, 2) })
		affected := ownResult(t, "AffectedAreas", func() ([]int, bool) { return impl.AffectedAreas(m, f, 5, 100) })
		merged := ownResult(t, "MergeAreas", func() ([]int, bool) {
			x, ok := impl.MergeAreas(m, 1, 2)
			return x.Cells, ok
		})
		results := [][]int{there, neighbors, affected, merged}
		for i, list := range results {
			for _, other := range slices.Concat(results[:i], [][]int{room, fieldRoom}) {
				if shareElements(list, other) {
					t.Errorf("result %d for %s shares memory", i, s)
				}
			}
		}
		impl.IsValidAreaMap(m)
		impl.AreaCells(m, 1)
		impl.CommonSides(m, 1, 2)
		impl.AreaCoverage(m, 1, f, 5)
		impl.AreaMaximum(m, 1, f)
		impl.IsConnectedArea(m, 1)
		if !slices.Equal(room, before) || !slices.Equal(fieldRoom, fieldBefore) {
			t.Errorf("the arguments are modified: %v and %v", room, fieldRoom)
		}
		clear(room)
		clear(fieldRoom)
		want := areaMap(s)
		expectElements(t, "AreasOf after the map is changed", there, true, plainThere(want))
		expectElements(t, "NeighborsOf after the map is changed", neighbors, true, plainNeighbors(want, 2))
		expectElements(t, "AffectedAreas after the map is changed", affected, true, plainThere(want))
		expectElements(t, "MergeAreas after the map is changed", merged, true, plainMerged(want, 1, 2).Cells)
	}
}

func TestMapsAreLeft(t *testing.T) {
	bad := areaMap("112/132")
	bad.Cells[4] = 10
	for _, given := range []impl.AreaMap{areaMap("112/132"), areaMap("000/000"), bad, mapOf(3, 2, 1, 2), mapOf(0, 2, 1, 2), mapOf(9, 1, filled(9, 1)...), areaMap("101/020/303")} {
		m, room := roomyMap(given)
		before := slices.Clone(room)
		f, fieldRoom := roomy(grid("5 10 0/. 7 20"))
		fieldBefore := slices.Clone(fieldRoom)
		impl.IsValidAreaMap(m)
		impl.AreasOf(m)
		for _, a := range digits() {
			impl.AreaCells(m, a)
			impl.NeighborsOf(m, a)
			impl.IsConnectedArea(m, a)
			for _, threshold := range []int{-9001, 0, 5, 9001} {
				impl.AreaCoverage(m, a, f, threshold)
				impl.AffectedAreas(m, f, threshold, 10*a)
			}
			impl.AreaMaximum(m, a, f)
			for _, b := range digits() {
				impl.CommonSides(m, a, b)
				if merged, ok := impl.MergeAreas(m, a, b); ok {
					clear(merged.Cells[:cap(merged.Cells)])
				}
			}
		}
		if !slices.Equal(room, before) || !slices.Equal(fieldRoom, fieldBefore) {
			t.Errorf("the arguments are modified: %v and %v", room, fieldRoom)
		}
	}
}

func TestMapsAreNotReadBehindTheLength(t *testing.T) {
	cells := []int{1, 2, 0, 1, 10, -1}
	checkAreas(t, mapOf(2, 1, cells[:2]...), digits())
	checkAreas(t, mapOf(2, 2, cells[:4]...), digits())
	expectInvalidMap(t, mapOf(2, 2, cells[:3]...))
	expectInvalidMap(t, mapOf(3, 2, cells[:4]...))
	expectInvalidMap(t, mapOf(5, 1, cells[:5]...))
	expectNotThere(t, mapOf(1, 1, cells[:1]...), 2, 1)
	values := []int{5, 6, 7, 8}
	expectNoValues(t, "a field completed from behind its length", mapOf(2, 1, 1, 1), 1, fieldOf(2, 1, values[:1]...), 5)
	expectCoverage(t, mapOf(2, 1, 1, 1), 1, fieldOf(2, 1, values[:2]...), 6, [2]int{1, 2})
}

func TestMapAndFieldOfTheSameMemory(t *testing.T) {
	cells := []int{1, 2, 2, 9}
	m, f := mapOf(2, 2, cells...), fieldOf(2, 2, cells...)
	checkAreas(t, m, digits())
	checkValues(t, m, f, []int{1, 2, 9}, []int{1, 50, 100})
	if !slices.Equal(cells, []int{1, 2, 2, 9}) {
		t.Errorf("the cells are modified: %v", cells)
	}
}
