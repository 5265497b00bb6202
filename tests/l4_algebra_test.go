package tests

import (
	"math"
	"math/rand/v2"
	"slices"
	"strconv"
	"testing"

	"loop.example/g00889/impl"
)

// algebraCall is a function of chapter 4 that takes one or more fields.
type algebraCall struct {
	name  string
	takes int
	run   func(f []impl.Field) (impl.Field, bool)
}

// algebraCalls are all functions of chapter 4, with numbers that are valid. The number that
// DifferentCells returns stands as the width of a field.
func algebraCalls() []algebraCall {
	calls := []algebraCall{
		{"ScaleField", 1, func(f []impl.Field) (impl.Field, bool) { return impl.ScaleField(f[0], 1, 1) }},
		{"ScaleField to 0", 1, func(f []impl.Field) (impl.Field, bool) { return impl.ScaleField(f[0], 0, 100) }},
		{"Exceeds", 1, func(f []impl.Field) (impl.Field, bool) { return impl.Exceeds(f[0], 3) }},
		{"MaskField", 2, func(f []impl.Field) (impl.Field, bool) { return impl.MaskField(f[0], f[1]) }},
		{"FillFrom", 2, func(f []impl.Field) (impl.Field, bool) { return impl.FillFrom(f[0], f[1]) }},
		{"ClipField", 1, func(f []impl.Field) (impl.Field, bool) { return impl.ClipField(f[0], -9000, 9000) }},
		{"ClipField to 4", 1, func(f []impl.Field) (impl.Field, bool) { return impl.ClipField(f[0], 4, 4) }},
		{"DifferentCells", 2, func(f []impl.Field) (impl.Field, bool) {
			n, ok := impl.DifferentCells(f[0], f[1])
			return impl.Field{Wide: n}, ok
		}},
		{"ChoosePart", 3, func(f []impl.Field) (impl.Field, bool) { return impl.ChoosePart(f[0], f[1], f[2]) }},
		{"AbsoluteField", 1, func(f []impl.Field) (impl.Field, bool) { return impl.AbsoluteField(f[0]) }},
	}
	for op := 1; op <= 4; op++ {
		calls = append(calls, algebraCall{"Combine " + strconv.Itoa(op), 2, func(f []impl.Field) (impl.Field, bool) {
			return impl.Combine(op, f[0], f[1])
		}})
	}
	return calls
}

// sampleCells are Missing and values at and around the limits, of which some pairs add up to
// the limits, to one beyond them, and to the number of Missing.
func sampleCells() []int {
	cells := []int{gone, 0}
	for _, size := range []int{1, 2, 3, 7, 99, 100, 999, 1000, 1111, 2500, 3333, 4499, 4500, 4501, 4999, 5000, 8001, 8570, 8998, 8999, 9000} {
		cells = append(cells, size, -size)
	}
	return cells
}

// farNumbers are beyond every range; some are 0 or small in fewer bits or after a product.
func farNumbers() []int {
	return []int{
		1 << 16, 1<<16 + 1, 1 << 32, 1<<32 + 1, -(1 << 32), 1<<32 - 1, 1 << 56, 1 << 60, 1 << 61, 1<<61 + 1, 1 << 62, 1<<62 + 1,
		-(1 << 61), -(1 << 62), math.MaxInt32, math.MinInt32, math.MaxInt / 100, math.MinInt / 100, math.MaxInt/9000 + 1,
		math.MinInt/9000 - 1, math.MaxInt/2 + 1, math.MaxInt - 9000, math.MaxInt - 1, math.MaxInt, math.MinInt + 9000, math.MinInt + 1, math.MinInt,
	}
}

// combined is the cell that an operation makes of two cells; it is false where there is none.
func combined(op int, x int, y int) (int, bool) {
	if x == gone || y == gone {
		return gone, true
	}
	made := 0
	switch op {
	case 1:
		made = x + y
	case 2:
		made = x - y
	case 3:
		made = slices.Min([]int{x, y})
	case 4:
		made = slices.Max([]int{x, y})
	}
	return made, -9000 <= made && made <= 9000
}

// expectCell fails unless a call gave the field of one cell, or no field where there is no cell.
func expectCell(t *testing.T, what string, got impl.Field, ok bool, want int, is bool) {
	t.Helper()
	if !is {
		expectNoField(t, what, got, ok)
		return
	}
	expectField(t, what, got, ok, fieldOf(1, 1, want))
}

func TestNumbersOfOperations(t *testing.T) {
	if impl.OpAdd != 1 || impl.OpSubtract != 2 || impl.OpLeast != 3 || impl.OpMost != 4 {
		t.Error(impl.OpAdd, impl.OpSubtract, impl.OpLeast, impl.OpMost)
	}
}

func TestCombineFields(t *testing.T) {
	a := fieldOf(3, 2, 1, -7, gone, 5, 0, -9000)
	b := fieldOf(3, 2, 4, 2, 3, gone, 0, 9000)
	for _, c := range []struct {
		op   int
		want []int
	}{
		{1, []int{5, -5, gone, gone, 0, 0}},
		{3, []int{1, -7, gone, gone, 0, -9000}},
		{4, []int{4, 2, gone, gone, 0, 9000}},
	} {
		f, ok := impl.Combine(c.op, a, b)
		expectField(t, "Combine "+strconv.Itoa(c.op), f, ok, fieldOf(3, 2, c.want...))
		f, ok = impl.Combine(c.op, b, a)
		expectField(t, "turned, Combine "+strconv.Itoa(c.op), f, ok, fieldOf(3, 2, c.want...))
	}
	f, ok := impl.Combine(2, a, b)
	expectNoField(t, "a - b with -18000", f, ok)
	b.Cells[5] = -1
	f, ok = impl.Combine(2, a, b)
	expectField(t, "a - b", f, ok, fieldOf(3, 2, -3, -9, gone, gone, 0, -8999))
	f, ok = impl.Combine(2, b, a)
	expectField(t, "b - a", f, ok, fieldOf(3, 2, 3, 9, gone, gone, 0, 8999))
}

func TestCombineEveryPairOfCells(t *testing.T) {
	for op := 1; op <= 4; op++ {
		for _, x := range sampleCells() {
			for _, y := range sampleCells() {
				name := "Combine " + strconv.Itoa(op) + " of " + strconv.Itoa(x) + " and " + strconv.Itoa(y)
				want, is := combined(op, x, y)
				f, ok := impl.Combine(op, fieldOf(1, 1, x), fieldOf(1, 1, y))
				expectCell(t, name, f, ok, want, is)
			}
		}
	}
}

func TestCombineKeepsPlaces(t *testing.T) {
	for _, shape := range [][2]int{{8, 8}, {8, 1}, {1, 8}, {3, 2}, {2, 3}} {
		a := countingField(shape[0], shape[1])
		b := countingField(shape[0], shape[1])
		slices.Reverse(b.Cells)
		for op := 1; op <= 4; op++ {
			want := fieldOf(a.Wide, a.High)
			for i := range a.Cells {
				cell, _ := combined(op, a.Cells[i], b.Cells[i])
				want.Cells = append(want.Cells, cell)
			}
			f, ok := impl.Combine(op, a, b)
			expectField(t, "Combine "+strconv.Itoa(op), f, ok, want)
		}
	}
}

func TestOtherNumbersOfOperations(t *testing.T) {
	for _, op := range append(farNumbers(), 0, 5, 6, -1, -2, -3, -4, 8, 16, 256, 256+1, 1<<16+2, 1<<32+3, 1<<32+4, gone) {
		for _, f := range []impl.Field{fieldOf(1, 1, 0), fieldOf(1, 1, gone), fieldOf(3, 2, 1, -7, gone, 5, 0, 2), {}, fieldOf(1, 1, 9001)} {
			g, ok := impl.Combine(op, f, f)
			expectNoField(t, "Combine "+strconv.Itoa(op), g, ok)
		}
	}
}

func TestSumsAtTheLimits(t *testing.T) {
	for x := -9000; x <= 9000; x++ {
		for _, sum := range []int{9000, 9001, -9000, -9001, gone, -9998, -10000, 9999} {
			for _, c := range [][2]int{{1, sum - x}, {2, x - sum}} {
				op, y := c[0], c[1]
				if y < -9000 || y > 9000 {
					continue
				}
				f, ok := impl.Combine(op, fieldOf(1, 1, x), fieldOf(1, 1, y))
				expectCell(t, "a sum of "+strconv.Itoa(sum), f, ok, sum, sum == 9000 || sum == -9000)
			}
		}
	}
}

func TestOneCellTooFarFailsTheField(t *testing.T) {
	for at := range 6 {
		a, b := fieldOf(3, 2, filled(6, 1)...), fieldOf(3, 2, filled(6, gone)...)
		for _, far := range []int{9000, -9000} {
			step := far / 9000
			a.Cells[at], b.Cells[at] = far, step
			f, ok := impl.Combine(impl.OpAdd, a, b)
			expectNoField(t, "one sum too far", f, ok)
			f, ok = impl.Combine(impl.OpSubtract, b, a)
			expectField(t, "all differences in range", f, ok, one(b, at, step-far))
			b.Cells[at] = -step
			f, ok = impl.Combine(impl.OpSubtract, a, b)
			expectNoField(t, "one difference too far", f, ok)
			f, ok = impl.Combine(impl.OpAdd, b, a)
			expectField(t, "all sums in range", f, ok, one(b, at, far-step))
			f, ok = impl.ScaleField(a, 101, 101)
			expectNoField(t, "num and den too far", f, ok)
			f, ok = impl.ScaleField(a, 3, 2)
			expectNoField(t, "one scaled value too far", f, ok)
		}
	}
}

// one returns a field with another cell in one place.
func one(f impl.Field, at int, cell int) impl.Field {
	cells := slices.Clone(f.Cells)
	cells[at] = cell
	return fieldOf(f.Wide, f.High, cells...)
}

func TestAValueInOneFieldAloneIsNotTooFar(t *testing.T) {
	for _, far := range []int{9000, -9000} {
		a := fieldOf(2, 2, far, gone, gone, far/9000)
		b := fieldOf(2, 2, gone, far, gone, far-far/9000)
		sum, ok := impl.Combine(impl.OpAdd, a, b)
		expectField(t, "sum", sum, ok, fieldOf(2, 2, gone, gone, gone, far))
		for _, op := range []int{impl.OpSubtract, impl.OpLeast, impl.OpMost} {
			f, ok := impl.Combine(op, a, b)
			if !ok || !slices.Equal(f.Cells[:3], filled(3, gone)) {
				t.Errorf("Combine(%d) = %v, %v", op, f, ok)
			}
		}
	}
}

// someField has random cells of at most one size, of which some are Missing.
func someField(random *rand.Rand, wide int, high int, size int) impl.Field {
	f := fieldOf(wide, high, make([]int, wide*high)...)
	for i := range f.Cells {
		f.Cells[i] = random.IntN(2*size+1) - size
		if random.IntN(5) == 0 {
			f.Cells[i] = gone
		}
	}
	return f
}

// known returns the cells of f where g is not Missing.
func known(f impl.Field, g impl.Field) impl.Field {
	cells := slices.Clone(f.Cells)
	for i := range cells {
		if g.Cells[i] == gone {
			cells[i] = gone
		}
	}
	return fieldOf(f.Wide, f.High, cells...)
}

func TestAddingAndSubtractingCancel(t *testing.T) {
	random := rand.New(rand.NewPCG(4, 4))
	done := map[bool]int{}
	for range 20000 {
		wide, high := random.IntN(8)+1, random.IntN(8)+1
		size := []int{3, 4500, 4600, 9000}[random.IntN(4)]
		a, b := someField(random, wide, high, size), someField(random, wide, high, size)
		for _, ops := range [][2]int{{impl.OpAdd, impl.OpSubtract}, {impl.OpSubtract, impl.OpAdd}} {
			all := true
			for i := range a.Cells {
				_, is := combined(ops[0], a.Cells[i], b.Cells[i])
				all = all && is
			}
			done[all]++
			there, ok := impl.Combine(ops[0], a, b)
			if !all {
				expectNoField(t, "too far", there, ok)
				continue
			}
			back, okBack := impl.Combine(ops[1], there, b)
			expectField(t, "there and back", back, ok && okBack, known(a, b))
		}
	}
	if done[true] < 1000 || done[false] < 1000 {
		t.Error("results in range and not:", done)
	}
}

func TestOperationsFitTogether(t *testing.T) {
	random := rand.New(rand.NewPCG(5, 5))
	for range 2000 {
		wide, high := random.IntN(8)+1, random.IntN(8)+1
		a, b := someField(random, wide, high, 4500), someField(random, wide, high, 4500)
		sum, _ := impl.Combine(impl.OpAdd, a, b)
		least, _ := impl.Combine(impl.OpLeast, a, b)
		most, _ := impl.Combine(impl.OpMost, a, b)
		again, ok := impl.Combine(impl.OpAdd, least, most)
		expectField(t, "least + most", again, ok, sum)
		apart, _ := impl.Combine(impl.OpSubtract, a, b)
		size, _ := impl.AbsoluteField(apart)
		gap, ok := impl.Combine(impl.OpSubtract, most, least)
		expectField(t, "most - least", gap, ok, size)
		turned, _ := impl.Combine(impl.OpSubtract, b, a)
		minus, ok := impl.ScaleField(apart, -1, 1)
		expectField(t, "-(a - b)", minus, ok, turned)
		above, _ := impl.Exceeds(apart, 0)
		chosen, ok := impl.ChoosePart(above, a, b)
		expectField(t, "the greater part", chosen, ok, most)
	}
}

func TestAFieldAndItself(t *testing.T) {
	for _, w := range writtenFields() {
		f := w.field
		nothing, ok := impl.Combine(impl.OpSubtract, f, f)
		expectField(t, "f - f", nothing, ok, known(fieldOf(f.Wide, f.High, filled(len(f.Cells), 0)...), f))
		for _, op := range []int{impl.OpLeast, impl.OpMost} {
			g, ok := impl.Combine(op, f, f)
			expectField(t, "f with f", g, ok, f)
		}
		g, ok := impl.FillFrom(f, f)
		expectField(t, "f filled from f", g, ok, f)
		g, ok = impl.ChoosePart(f, f, f)
		expectField(t, "f chosen by f", g, ok, f)
		g, ok = impl.ScaleField(f, 1, 1)
		expectField(t, "f scaled by 1", g, ok, f)
		g, ok = impl.ClipField(f, -9000, 9000)
		expectField(t, "f clipped at the limits", g, ok, f)
	}
}

func TestScaleRoundsDown(t *testing.T) {
	for _, c := range []struct{ value, num, den, want int }{
		{1, 1, 2, 0}, {-1, 1, 2, -1}, {1, -1, 2, -1}, {-1, -1, 2, 0}, {-7, 1, 2, -4}, {7, 1, 2, 3}, {5, 1, 2, 2}, {-6, 1, 2, -3},
		{-1, 1, 100, -1}, {1, -1, 100, -1}, {99, 1, 100, 0}, {-99, 1, 100, -1}, {-100, 1, 100, -1}, {-101, 1, 100, -2}, {100, 1, 100, 1},
		{10, 1, 3, 3}, {11, 1, 3, 3}, {12, 1, 3, 4}, {-10, 1, 3, -4}, {-11, 1, 3, -4}, {-12, 1, 3, -4}, {10, 2, 3, 6}, {10, -2, 3, -7},
		{9000, 100, 100, 9000}, {9000, -100, 100, -9000}, {-9000, 100, 100, -9000}, {-9000, -100, 100, 9000}, {90, 100, 1, 9000},
		{-90, 100, 1, -9000}, {90, -100, 1, -9000}, {9000, 99, 100, 8910}, {9000, 0, 1, 0}, {-9000, 0, 100, 0}, {0, 100, 1, 0}, {0, -100, 100, 0},
		{gone, 100, 1, gone}, {gone, -1, 2, gone}, {gone, 0, 1, gone}, {gone, 1, 100, gone}, {6429, 7, 5, 9000},
	} {
		f, ok := impl.ScaleField(fieldOf(1, 1, c.value), c.num, c.den)
		what := strconv.Itoa(c.value) + " * " + strconv.Itoa(c.num) + " / " + strconv.Itoa(c.den)
		expectField(t, what, f, ok, fieldOf(1, 1, c.want))
	}
}

func TestScaleByEveryFraction(t *testing.T) {
	for _, value := range sampleCells() {
		for num := -100; num <= 100; num++ {
			for den := 1; den <= 100; den++ {
				checkScaled(t, value, num, den)
			}
		}
	}
}

// checkScaled fails unless a cell is scaled to the greatest number that is not above the fraction.
func checkScaled(t *testing.T, value int, num int, den int) {
	f, ok := impl.ScaleField(fieldOf(1, 1, value), num, den)
	product := value * num
	switch {
	case value == gone:
		expectField(t, "Missing scaled", f, ok, fieldOf(1, 1, gone))
	case product < -9000*den || product >= 9001*den:
		expectNoField(t, "too far", f, ok)
	case !ok || f.Wide != 1 || f.High != 1 || len(f.Cells) != 1:
		t.Fatalf("%d * %d / %d = %v, %v", value, num, den, f, ok)
	case f.Cells[0]*den > product || (f.Cells[0]+1)*den <= product:
		t.Fatalf("%d * %d / %d = %d", value, num, den, f.Cells[0])
	}
}

func TestScaleAtTheLimits(t *testing.T) {
	// The last numbers are what the fractions give, rounded down; some are the number of Missing.
	for _, c := range [][4]int{
		{4500, 2, 1, 9000}, {-4500, 2, 1, -9000}, {3000, -3, 1, -9000}, {6000, 3, 2, 9000}, {8182, 11, 10, 9000}, {-8181, 11, 10, -9000},
		{8183, 11, 10, 9001}, {6001, 3, 2, 9001}, {6001, -3, 2, -9002}, {-8182, 11, 10, -9001}, {-3001, 3, 1, -9003},
		{3333, -3, 1, gone}, {-3333, 3, 1, gone}, {1111, -9, 1, gone}, {-1111, 9, 1, gone}, {-8570, 7, 6, gone}, {101, -99, 1, gone},
		{9000, 2, 1, 18000}, {9000, 100, 99, 9090}, {-9000, 100, 99, -9091}, {-9000, 100, 1, -900000}, {91, 100, 1, 9100},
	} {
		is := c[3] >= -9000 && c[3] <= 9000
		f, ok := impl.ScaleField(fieldOf(1, 1, c[0]), c[1], c[2])
		expectCell(t, "scaled to "+strconv.Itoa(c[3]), f, ok, c[3], is)
		f, ok = impl.ScaleField(fieldOf(2, 1, gone, c[0]), c[1], c[2])
		if is {
			expectField(t, "scaled beside Missing", f, ok, fieldOf(2, 1, gone, c[3]))
		} else {
			expectNoField(t, "too far beside Missing", f, ok)
		}
	}
}

func TestScaleRejectsFractions(t *testing.T) {
	fields := []impl.Field{fieldOf(1, 1, 0), fieldOf(1, 1, gone), fieldOf(2, 2, 1, -2, gone, 4), fieldOf(1, 1, 8), fieldOf(1, 1, 9000), {}}
	far := append(farNumbers(), 101, -101, 102, 200, 1000, gone)
	for _, f := range fields {
		for _, num := range far {
			for _, den := range append(far, 1, 2, 50, 100, 0, -1) {
				g, ok := impl.ScaleField(f, num, den)
				expectNoField(t, "num "+strconv.Itoa(num)+", den "+strconv.Itoa(den), g, ok)
			}
		}
		for _, den := range append(far, 0, -1, -2, -100) {
			for _, num := range []int{0, 1, -1, 100, -100} {
				g, ok := impl.ScaleField(f, num, den)
				expectNoField(t, "num "+strconv.Itoa(num)+", den "+strconv.Itoa(den), g, ok)
			}
		}
	}
}

func TestExceedsEveryLimit(t *testing.T) {
	cells := sampleCells()[:40]
	f := fieldOf(8, 5, cells...)
	limits := append(append(farNumbers(), badCells()...), sampleCells()...)
	limits = append(limits, 8999, 9000, 9001, -9000, -9001, gone, gone-1, gone+1, 42, -42)
	for _, limit := range limits {
		want := fieldOf(8, 5, make([]int, 40)...)
		for i, cell := range cells {
			if cell == gone {
				want.Cells[i] = gone
			} else if cell > limit {
				want.Cells[i] = 1
			}
		}
		g, ok := impl.Exceeds(f, limit)
		expectField(t, "Exceeds "+strconv.Itoa(limit), g, ok, want)
	}
}

func TestExceedsByHand(t *testing.T) {
	f := fieldOf(3, 2, 3, 4, gone, -9000, 9000, 0)
	for _, c := range []struct {
		limit int
		want  []int
	}{
		{3, []int{0, 1, gone, 0, 1, 0}},
		{2, []int{1, 1, gone, 0, 1, 0}},
		{-1, []int{1, 1, gone, 0, 1, 1}},
		{9000, []int{0, 0, gone, 0, 0, 0}},
		{8999, []int{0, 0, gone, 0, 1, 0}},
		{-9000, []int{1, 1, gone, 0, 1, 1}},
		{-9001, []int{1, 1, gone, 1, 1, 1}},
		{-10000, []int{1, 1, gone, 1, 1, 1}},
		{math.MinInt, []int{1, 1, gone, 1, 1, 1}},
		{math.MaxInt, []int{0, 0, gone, 0, 0, 0}},
	} {
		g, ok := impl.Exceeds(f, c.limit)
		expectField(t, "Exceeds "+strconv.Itoa(c.limit), g, ok, fieldOf(3, 2, c.want...))
	}
}

func TestMaskAndFillEveryPairOfCells(t *testing.T) {
	for _, x := range sampleCells() {
		for _, y := range sampleCells() {
			masked, filled := x, x
			if y == 0 || y == gone {
				masked = gone
			}
			if x == gone {
				filled = y
			}
			name := strconv.Itoa(x) + " and " + strconv.Itoa(y)
			f, ok := impl.MaskField(fieldOf(1, 1, x), fieldOf(1, 1, y))
			expectField(t, "MaskField of "+name, f, ok, fieldOf(1, 1, masked))
			f, ok = impl.FillFrom(fieldOf(1, 1, x), fieldOf(1, 1, y))
			expectField(t, "FillFrom of "+name, f, ok, fieldOf(1, 1, filled))
		}
	}
}

func TestMaskField(t *testing.T) {
	f := fieldOf(4, 2, 1, 2, 3, gone, 5, 0, gone, gone)
	mask := fieldOf(4, 2, 0, gone, -1, 7, 9000, -9000, 0, gone)
	g, ok := impl.MaskField(f, mask)
	expectField(t, "masked", g, ok, fieldOf(4, 2, gone, gone, 3, gone, 5, 0, gone, gone))
	again, ok := impl.MaskField(g, mask)
	expectField(t, "masked again", again, ok, g)
}

func TestFillFrom(t *testing.T) {
	f := fieldOf(4, 2, 1, gone, gone, gone, 0, -9000, gone, 8)
	g := fieldOf(4, 2, 9, -2, 0, gone, 6, 7, 9000, gone)
	h, ok := impl.FillFrom(f, g)
	expectField(t, "filled", h, ok, fieldOf(4, 2, 1, -2, 0, gone, 0, -9000, 9000, 8))
	h, ok = impl.FillFrom(g, f)
	expectField(t, "the other one filled", h, ok, fieldOf(4, 2, 9, -2, 0, gone, 6, 7, 9000, 8))
}

func TestClipField(t *testing.T) {
	f := fieldOf(4, 2, 1, -7, gone, 5, 4, 0, 9000, -9000)
	for _, c := range []struct {
		low, high int
		want      []int
	}{
		{0, 4, []int{1, 0, gone, 4, 4, 0, 4, 0}},
		{3, 3, []int{3, 3, gone, 3, 3, 3, 3, 3}},
		{0, 0, []int{0, 0, gone, 0, 0, 0, 0, 0}},
		{-9000, 9000, []int{1, -7, gone, 5, 4, 0, 9000, -9000}},
		{-8999, 8999, []int{1, -7, gone, 5, 4, 0, 8999, -8999}},
		{9000, 9000, []int{9000, 9000, gone, 9000, 9000, 9000, 9000, 9000}},
		{-9000, -9000, []int{-9000, -9000, gone, -9000, -9000, -9000, -9000, -9000}},
		{-6, 4, []int{1, -6, gone, 4, 4, 0, 4, -6}},
		{-8, -7, []int{-7, -7, gone, -7, -7, -7, -7, -8}},
	} {
		g, ok := impl.ClipField(f, c.low, c.high)
		expectField(t, "ClipField "+strconv.Itoa(c.low)+".."+strconv.Itoa(c.high), g, ok, fieldOf(4, 2, c.want...))
	}
}

func TestClipToEveryRange(t *testing.T) {
	limits := append(append(append(sampleCells(), farNumbers()...), badCells()...), gone)
	for _, low := range limits {
		for _, high := range limits {
			valid := low <= high && low >= -9000 && high <= 9000
			for _, cell := range []int{gone, 0, 1, -1, 999, -4500, 8999, 9000, -9000} {
				want := cell
				if cell != gone && cell < low {
					want = low
				}
				if cell != gone && cell > high {
					want = high
				}
				f, ok := impl.ClipField(fieldOf(1, 1, cell), low, high)
				expectCell(t, strconv.Itoa(cell)+" in "+strconv.Itoa(low)+".."+strconv.Itoa(high), f, ok, want, valid)
			}
		}
	}
}

// expectCount fails unless DifferentCells gives a number, whichever field stands first.
func expectCount(t *testing.T, a impl.Field, b impl.Field, want int) {
	t.Helper()
	for _, pair := range [][2]impl.Field{{a, b}, {b, a}} {
		if n, ok := impl.DifferentCells(pair[0], pair[1]); !ok || n != want {
			t.Errorf("DifferentCells(%v, %v) = %d, %v, not %d", pair[0], pair[1], n, ok, want)
		}
	}
}

func TestDifferentCells(t *testing.T) {
	a := fieldOf(3, 2, 1, -7, gone, 5, gone, 0)
	b := fieldOf(3, 2, 1, 7, 3, gone, gone, -9000)
	expectCount(t, a, b, 4)
	expectCount(t, fieldOf(1, 1, 0), fieldOf(1, 1, gone), 1)
	expectCount(t, fieldOf(1, 1, -9000), fieldOf(1, 1, gone), 1)
	expectCount(t, fieldOf(1, 1, gone), fieldOf(1, 1, gone), 0)
	expectCount(t, fieldOf(8, 8, filled(64, gone)...), fieldOf(8, 8, filled(64, 0)...), 64)
	expectCount(t, fieldOf(8, 8, filled(64, 9000)...), fieldOf(8, 8, filled(64, -9000)...), 64)
	for _, w := range writtenFields() {
		expectCount(t, w.field, w.field, 0)
		expectCount(t, w.field, fieldOf(w.field.Wide, w.field.High, slices.Clone(w.field.Cells)...), 0)
	}
}

func TestDifferentCellsInEveryPlace(t *testing.T) {
	f, g := countingField(8, 8), countingField(8, 8)
	for i := range g.Cells {
		h := countingField(8, 8)
		for _, cell := range []int{gone, 0, i + 2, -i - 1} {
			h.Cells[i] = cell
			expectCount(t, f, h, 1)
		}
		g.Cells[i] = gone
		expectCount(t, f, g, i+1)
	}
}

func TestChoosePart(t *testing.T) {
	test := fieldOf(5, 2, 1, 0, gone, 1, 0, -1, 9000, 0, gone, gone)
	a := fieldOf(5, 2, 10, 11, 12, gone, 14, 15, -9000, gone, gone, 19)
	b := fieldOf(5, 2, 20, 21, 22, 23, gone, gone, 26, 27, 28, gone)
	f, ok := impl.ChoosePart(test, a, b)
	expectField(t, "chosen", f, ok, fieldOf(5, 2, 10, 21, gone, gone, gone, 15, -9000, 27, gone, gone))
	f, ok = impl.ChoosePart(test, b, a)
	expectField(t, "the other parts", f, ok, fieldOf(5, 2, 20, 11, gone, 23, 14, gone, 26, gone, gone, gone))
}

func TestChooseAmongAllCells(t *testing.T) {
	cells := []int{gone, 0, 1, -1, 2, 7, -7, 9000, -9000, 4500}
	for _, x := range cells {
		for _, y := range cells {
			for _, test := range append(cells, 8999, -8999, 256, 1<<12) {
				want := x
				if test == 0 {
					want = y
				}
				if test == gone {
					want = gone
				}
				f, ok := impl.ChoosePart(fieldOf(1, 1, test), fieldOf(1, 1, x), fieldOf(1, 1, y))
				expectField(t, "chosen by "+strconv.Itoa(test), f, ok, fieldOf(1, 1, want))
			}
		}
	}
}

func TestAbsoluteField(t *testing.T) {
	f, ok := impl.AbsoluteField(fieldOf(3, 2, 1, -7, gone, 0, 9000, -9000))
	expectField(t, "absolute", f, ok, fieldOf(3, 2, 1, 7, gone, 0, 9000, 9000))
	for n := -9000; n <= 9000; n++ {
		f, ok := impl.AbsoluteField(fieldOf(2, 1, gone, n))
		expectField(t, "absolute", f, ok, fieldOf(2, 1, gone, absolute(n)))
	}
}

func TestFieldsOfDifferentShapes(t *testing.T) {
	shapes := [][2]int{
		{1, 1}, {1, 4}, {4, 1}, {2, 2}, {2, 3}, {3, 2}, {1, 6}, {6, 1}, {2, 1}, {1, 2}, {8, 1}, {1, 8}, {4, 2}, {2, 4}, {8, 2}, {2, 8}, {4, 4}, {8, 8}, {8, 7}, {7, 8},
	}
	for _, call := range algebraCalls() {
		for _, p := range shapes {
			for _, q := range shapes {
				for _, cell := range []int{0, 1, gone} {
					f := fieldOf(p[0], p[1], filled(p[0]*p[1], cell)...)
					g := fieldOf(q[0], q[1], filled(q[0]*q[1], cell)...)
					checkShapes(t, call, f, g)
				}
			}
		}
	}
}

// checkShapes gives g to a call as each of its arguments, and f as the others.
func checkShapes(t *testing.T, call algebraCall, f impl.Field, g impl.Field) {
	for at := range call.takes {
		arguments := slices.Repeat([]impl.Field{f}, call.takes)
		arguments[at] = g
		made, ok := call.run(arguments)
		if call.takes == 1 || f.Wide == g.Wide && f.High == g.High {
			if !ok {
				t.Errorf("%s fails for %v", call.name, arguments)
			}
			continue
		}
		expectNoField(t, call.name, made, ok)
	}
}

// shapedLike returns a valid field of one value that has the shape of f, if there is one.
func shapedLike(f impl.Field, cell int) impl.Field {
	if f.Wide < 1 || f.Wide > 8 || f.High < 1 || f.High > 8 {
		return fieldOf(2, 2, filled(4, cell)...)
	}
	return fieldOf(f.Wide, f.High, filled(f.Wide*f.High, cell)...)
}

func TestAlgebraRejectsInvalidFields(t *testing.T) {
	for name, bad := range invalidFields() {
		for _, call := range algebraCalls() {
			for at := range call.takes {
				for _, cell := range []int{0, 1, gone} {
					arguments := slices.Repeat([]impl.Field{shapedLike(bad, cell)}, call.takes)
					arguments[at] = bad
					f, ok := call.run(arguments)
					expectNoField(t, call.name+" of "+name, f, ok)
				}
			}
			f, ok := call.run(slices.Repeat([]impl.Field{bad}, call.takes))
			expectNoField(t, call.name+" of nothing but "+name, f, ok)
		}
		for _, n := range append(farNumbers(), 0, 1, -1) {
			f, ok := impl.ScaleField(bad, n, n)
			expectNoField(t, "ScaleField of "+name, f, ok)
			f, ok = impl.Exceeds(bad, n)
			expectNoField(t, "Exceeds of "+name, f, ok)
			f, ok = impl.ClipField(bad, n, n)
			expectNoField(t, "ClipField of "+name, f, ok)
		}
	}
}

func TestCellsThatOverflowAreInvalid(t *testing.T) {
	for _, x := range farNumbers() {
		for _, y := range append(farNumbers(), -x, x, -1-x, 0, 1, -1, gone) {
			for op := 1; op <= 4; op++ {
				f, ok := impl.Combine(op, fieldOf(1, 1, x), fieldOf(1, 1, y))
				expectNoField(t, "Combine", f, ok)
				f, ok = impl.Combine(op, fieldOf(1, 1, y), fieldOf(1, 1, x))
				expectNoField(t, "Combine", f, ok)
			}
		}
		for _, num := range []int{0, 1, -1, 2, 16, 100, -100} {
			f, ok := impl.ScaleField(fieldOf(1, 1, x), num, 1)
			expectNoField(t, "ScaleField", f, ok)
		}
	}
}

// roomy returns the field with more cells behind its length.
func roomy(f impl.Field) (impl.Field, []int) {
	room := append(slices.Clone(f.Cells), 12345, gone, 1)
	return fieldOf(f.Wide, f.High, room[:len(f.Cells)]...), room
}

func TestAlgebraAndMemory(t *testing.T) {
	fields := []impl.Field{
		fieldOf(3, 2, 1, -7, gone, 5, 0, -90), fieldOf(3, 2, filled(6, gone)...), fieldOf(3, 2, filled(6, 0)...),
		fieldOf(3, 2, filled(6, 4)...), fieldOf(3, 2, gone, 0, 1, gone, 0, 1), fieldOf(3, 2, 1, 2, 3, 4, 5, 6),
	}
	for _, call := range algebraCalls() {
		for _, f := range fields {
			for _, g := range fields {
				for _, h := range fields {
					checkMemory(t, call, []impl.Field{f, g, h})
				}
			}
		}
	}
}

// checkMemory fails if a call modifies its arguments or what is behind them, or if its result
// lies in their memory or in that of another result.
func checkMemory(t *testing.T, call algebraCall, fields []impl.Field) {
	arguments, rooms, before := []impl.Field{}, [][]int{}, [][]int{}
	for _, f := range fields[:call.takes] {
		f, room := roomy(f)
		arguments = append(arguments, f)
		rooms = append(rooms, room)
		before = append(before, slices.Clone(room))
	}
	made, ok := call.run(arguments)
	second, okSecond := call.run(arguments)
	if !ok || !okSecond || !sameField(made, second) {
		t.Errorf("%s of %v = %v and then %v", call.name, arguments, made, second)
	}
	want := slices.Clone(made.Cells)
	if shareElements(made.Cells, second.Cells) {
		t.Errorf("two results of %s share memory", call.name)
	}
	all := second.Cells[:cap(second.Cells)]
	for i := range all {
		all[i] = 77
	}
	for i, room := range rooms {
		if shareElements(made.Cells, room) {
			t.Errorf("%s shares memory with argument %d", call.name, i)
		}
		if !slices.Equal(room, before[i]) {
			t.Errorf("%s modifies argument %d, or its result does", call.name, i)
		}
	}
	for _, room := range rooms {
		for i := range room {
			room[i] = 88
		}
	}
	if !slices.Equal(made.Cells, want) {
		t.Errorf("the result of %s changes with its arguments", call.name)
	}
}

func TestAlgebraOfOneFieldAsAllArguments(t *testing.T) {
	for _, call := range algebraCalls() {
		f, room := roomy(fieldOf(3, 2, 1, -7, gone, 5, 0, -90))
		before := slices.Clone(room)
		made, ok := call.run(slices.Repeat([]impl.Field{f}, call.takes))
		if !ok || shareElements(made.Cells, room) || !slices.Equal(room, before) {
			t.Errorf("%s = %v, %v, from %v", call.name, made, ok, room)
		}
	}
}

func TestAlgebraDoesNotReadBehindTheLength(t *testing.T) {
	cells := []int{1, 2, 3, 4, 5, 6}
	short, long := fieldOf(2, 2, cells[:4]...), fieldOf(2, 2, cells[:3]...)
	for _, call := range algebraCalls() {
		if made, ok := call.run(slices.Repeat([]impl.Field{short}, call.takes)); !ok || len(made.Cells) > 4 {
			t.Errorf("%s = %v, %v", call.name, made, ok)
		}
		for at := range call.takes {
			arguments := slices.Repeat([]impl.Field{short}, call.takes)
			arguments[at] = long
			made, ok := call.run(arguments)
			expectNoField(t, call.name+" of a field completed from behind its length", made, ok)
		}
	}
}
