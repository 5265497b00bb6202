package tests

import (
	"math"
	"regexp"
	"slices"
	"strconv"
	"strings"
	"testing"

	"loop.example/g00889/impl"
)

const gone = impl.Missing

// fieldOf returns a field with its cells as they are given, valid or not.
func fieldOf(wide int, high int, cells ...int) impl.Field {
	return impl.Field{Wide: wide, High: high, Cells: cells}
}

// filled returns size cells of one value.
func filled(size int, value int) []int {
	return slices.Repeat([]int{value}, size)
}

func sameField(a impl.Field, b impl.Field) bool {
	return a.Wide == b.Wide && a.High == b.High && slices.Equal(a.Cells, b.Cells)
}

// expectField fails unless a call succeeded with a field.
func expectField(t *testing.T, what string, got impl.Field, ok bool, want impl.Field) {
	t.Helper()
	if !ok || !sameField(got, want) {
		t.Errorf("%s = %v, %v, not %v", what, got, ok, want)
	}
}

// expectNoField fails unless a call failed with the zero field.
func expectNoField(t *testing.T, what string, got impl.Field, ok bool) {
	t.Helper()
	if ok || got.Wide != 0 || got.High != 0 || len(got.Cells) != 0 {
		t.Errorf("%s = %v, %v", what, got, ok)
	}
}

// countingField has the values 1, 2, 3 and so on, so that every cell has its own value.
func countingField(wide int, high int) impl.Field {
	cells := make([]int, wide*high)
	for i := range cells {
		cells[i] = i + 1
	}
	return fieldOf(wide, high, cells...)
}

type writtenField struct {
	field impl.Field
	text  string
}

// writtenFields are ordinary fields and fields at the limits, with their texts.
func writtenFields() []writtenField {
	line := strings.Repeat("-9000 ", 7) + "-9000\n"
	dots := strings.Repeat(". ", 7) + ".\n"
	return []writtenField{
		{fieldOf(1, 1, 0), "0\n"},
		{fieldOf(1, 1, gone), ".\n"},
		{fieldOf(1, 1, 9000), "9000\n"},
		{fieldOf(1, 1, -9000), "-9000\n"},
		{fieldOf(1, 1, -8999), "-8999\n"},
		{fieldOf(1, 1, 1000), "1000\n"},
		{fieldOf(2, 1, gone, 0), ". 0\n"},
		{fieldOf(1, 2, gone, 0), ".\n0\n"},
		{fieldOf(1, 3, 1, -1, 10), "1\n-1\n10\n"},
		{fieldOf(3, 2, 1, 2, 3, gone, -5, 6), "1 2 3\n. -5 6\n"},
		{fieldOf(2, 3, 1, 2, 3, gone, -5, 6), "1 2\n3 .\n-5 6\n"},
		{fieldOf(2, 2, -999, 999, 100, -10), "-999 999\n100 -10\n"},
		{fieldOf(8, 1, 1, 2, 3, 4, 5, 6, 7, 8), "1 2 3 4 5 6 7 8\n"},
		{fieldOf(1, 8, 1, 2, 3, 4, 5, 6, 7, gone), "1\n2\n3\n4\n5\n6\n7\n.\n"},
		{fieldOf(8, 8, filled(64, -9000)...), strings.Repeat(line, 8)},
		{fieldOf(8, 8, filled(64, gone)...), strings.Repeat(dots, 8)},
	}
}

// invalidFields are fields that no function accepts.
func invalidFields() map[string]impl.Field {
	invalid := map[string]impl.Field{
		"zero":               {},
		"no cells":           fieldOf(1, 1),
		"a cell too many":    fieldOf(1, 1, 0, 0),
		"one less of six":    fieldOf(3, 2, 1, 2, 3, 4, 5),
		"one more than six":  fieldOf(3, 2, 1, 2, 3, 4, 5, 6, 7),
		"one less at most":   fieldOf(8, 8, filled(63, 0)...),
		"one more at most":   fieldOf(8, 8, filled(65, 0)...),
		"width 0":            fieldOf(0, 1),
		"height 0":           fieldOf(1, 0),
		"width 0, a cell":    fieldOf(0, 1, 5),
		"width 9":            fieldOf(9, 1, filled(9, 0)...),
		"height 9":           fieldOf(1, 9, filled(9, 0)...),
		"both 9":             fieldOf(9, 9, filled(81, 0)...),
		"width 16, height 4": fieldOf(16, 4, filled(64, 0)...),
		"height 64":          fieldOf(1, 64, filled(64, 0)...),
		"both -1":            fieldOf(-1, -1, 5),
		"-2 by -3":           fieldOf(-2, -3, 1, 2, 3, 4, 5, 6),
		"width -1":           fieldOf(-1, 1),
		"height -1":          fieldOf(1, -1),
		"product 2^64":       fieldOf(1<<32, 1<<32),
		"product 2^64 + 1":   fieldOf(3, -6148914691236517205, 5),
		"height first":       fieldOf(-6148914691236517205, 3, 5),
		"greatest sides":     fieldOf(math.MaxInt, math.MaxInt, 5),
		"smallest sides":     fieldOf(math.MinInt, math.MinInt),
		"smallest and -1":    fieldOf(math.MinInt, -1),
		"smallest and 2":     fieldOf(math.MinInt, 2),
		"2 and smallest":     fieldOf(2, math.MinInt),
		"many cells":         fieldOf(8, 8, make([]int, 100000)...),
	}
	for _, bad := range badCells() {
		name := strconv.Itoa(bad)
		invalid["one cell "+name] = fieldOf(1, 1, bad)
		invalid["first cell "+name] = fieldOf(2, 2, bad, 1, 2, 3)
		invalid["last cell "+name] = fieldOf(2, 2, 0, 1, gone, bad)
	}
	return invalid
}

// badCells are neither values nor Missing, though some look like it.
func badCells() []int {
	return []int{
		9001, -9001, 9999, -9998, -10000, 10000, 99999, -99999, 1 << 16, gone + 1<<16, gone + 1<<32, 1 << 32,
		math.MaxInt32, math.MinInt32, math.MaxInt, math.MinInt,
	}
}

func TestLimitsOfFields(t *testing.T) {
	if impl.MaxSide != 8 || impl.MaxValue != 9000 || impl.Missing != -9999 {
		t.Error("limits", impl.MaxSide, impl.MaxValue, impl.Missing)
	}
}

func TestIsValidField(t *testing.T) {
	for _, w := range writtenFields() {
		if !impl.IsValidField(w.field) {
			t.Error("not valid", w.field)
		}
	}
	for name, f := range invalidFields() {
		if impl.IsValidField(f) {
			t.Error("valid:", name)
		}
	}
}

func TestEveryShapeNeedsItsCells(t *testing.T) {
	for wide := -1; wide <= 10; wide++ {
		for high := -1; high <= 10; high++ {
			for size := 0; size <= 101; size++ {
				want := wide >= 1 && wide <= 8 && high >= 1 && high <= 8 && size == wide*high
				if impl.IsValidField(fieldOf(wide, high, filled(size, 1)...)) != want {
					t.Fatal(wide, high, size)
				}
			}
		}
	}
}

func TestEveryNumberAsACell(t *testing.T) {
	for n := -12000; n <= 12000; n++ {
		f := fieldOf(2, 1, 0, n)
		want := n >= -9000 && n <= 9000 || n == -9999
		if impl.IsValidField(f) != want {
			t.Fatal("valid", n)
		}
		made, ok := impl.NewField(2, 1, n)
		changed, set := impl.SetCell(fieldOf(2, 1, 0, 7), 1, 0, n)
		if !want {
			expectNoField(t, "NewField", made, ok)
			expectNoField(t, "SetCell", changed, set)
			continue
		}
		expectField(t, "NewField", made, ok, fieldOf(2, 1, n, n))
		expectField(t, "SetCell", changed, set, f)
	}
}

func TestFieldsBeyondTheirLengthAreNotRead(t *testing.T) {
	cells := []int{1, 2, 3, 4, 12345}
	if !impl.IsValidField(fieldOf(2, 2, cells[:4]...)) {
		t.Error("the cell beyond the length counts")
	}
	if impl.IsValidField(fieldOf(2, 2, cells[:3]...)) {
		t.Error("the cell beyond the length completes a field")
	}
}

func TestNewFieldOfEveryShape(t *testing.T) {
	for wide := 1; wide <= impl.MaxSide; wide++ {
		for high := 1; high <= impl.MaxSide; high++ {
			for _, value := range []int{0, 1, 9000, -9000, gone} {
				f, ok := impl.NewField(wide, high, value)
				expectField(t, "NewField", f, ok, fieldOf(wide, high, filled(wide*high, value)...))
			}
		}
	}
}

func TestNewFieldRejects(t *testing.T) {
	sides := []int{0, -1, 9, -8, 16, 1 << 32, 1<<32 + 1, math.MaxInt, math.MinInt, math.MinInt + 1}
	for _, side := range sides {
		for _, value := range []int{0, gone, 9001} {
			for _, other := range append(sides, 1, 8) {
				f, ok := impl.NewField(side, other, value)
				expectNoField(t, "NewField by width", f, ok)
				f, ok = impl.NewField(other, side, value)
				expectNoField(t, "NewField by height", f, ok)
			}
		}
	}
	for _, value := range badCells() {
		f, ok := impl.NewField(8, 8, value)
		expectNoField(t, "NewField of "+strconv.Itoa(value), f, ok)
	}
}

func TestNewFieldsAreSeparate(t *testing.T) {
	a, _ := impl.NewField(8, 8, 3)
	b, _ := impl.NewField(8, 8, 3)
	if shareElements(a.Cells, b.Cells) {
		t.Error("two results share memory")
	}
}

func TestCellAtEveryCell(t *testing.T) {
	for _, shape := range [][2]int{{1, 1}, {3, 2}, {2, 3}, {8, 1}, {1, 8}, {8, 8}} {
		wide, high := shape[0], shape[1]
		f := countingField(wide, high)
		for y := -2; y <= high+1; y++ {
			for x := -2; x <= wide+1; x++ {
				inside := x >= 0 && x < wide && y >= 0 && y < high
				want := 0
				if inside {
					want = y*wide + x + 1
				}
				if got, ok := impl.CellAt(f, x, y); ok != inside || got != want {
					t.Errorf("CellAt(%d by %d, %d, %d) = %d, %v", wide, high, x, y, got, ok)
				}
			}
		}
	}
}

func TestCellAtGivesMissing(t *testing.T) {
	f := fieldOf(3, 1, gone, 0, -9000)
	for x, want := range f.Cells {
		if got, ok := impl.CellAt(f, x, 0); !ok || got != want {
			t.Errorf("CellAt(%d) = %d, %v", x, got, ok)
		}
	}
}

// farPlaces are outside of a field, though the index of some overflows to one inside.
func farPlaces() [][2]int {
	return [][2]int{
		{3, 0}, {-1, 0}, {-1, 1}, {0, 2}, {0, -1}, {3, -1}, {6, -1}, {-3, 1}, {-3, 2}, {4, 0}, {5, 0},
		{math.MaxInt, 0}, {0, math.MaxInt}, {math.MinInt, 0}, {0, math.MinInt}, {math.MaxInt, math.MaxInt},
		{math.MinInt, math.MinInt}, {math.MinInt, math.MaxInt}, {1, -6148914691236517205}, {0, -6148914691236517205},
		{1 << 32, 0}, {0, 1 << 32},
	}
}

func TestCellsOutsideDoNotExist(t *testing.T) {
	f := countingField(3, 2)
	for _, p := range farPlaces() {
		if got, ok := impl.CellAt(f, p[0], p[1]); ok || got != 0 {
			t.Errorf("CellAt(%v) = %d, %v", p, got, ok)
		}
		for _, value := range []int{0, 5, gone} {
			g, ok := impl.SetCell(f, p[0], p[1], value)
			expectNoField(t, "SetCell", g, ok)
		}
		for _, shape := range [][2]int{{1, 1}, {3, 2}, {2, 1}, {math.MaxInt, math.MaxInt}, {math.MinInt, math.MinInt}} {
			g, ok := impl.SubField(f, p[0], p[1], shape[0], shape[1])
			expectNoField(t, "SubField", g, ok)
		}
	}
}

func TestSetCellChangesOneCell(t *testing.T) {
	for _, shape := range [][2]int{{1, 1}, {3, 2}, {2, 3}, {8, 8}} {
		f := countingField(shape[0], shape[1])
		for i := range f.Cells {
			x, y := i%f.Wide, i/f.Wide
			for _, value := range []int{9000, -9000, 0, gone, i + 1} {
				g, ok := impl.SetCell(f, x, y, value)
				want := countingField(f.Wide, f.High)
				want.Cells[i] = value
				expectField(t, "SetCell", g, ok, want)
				if shareElements(f.Cells, g.Cells) {
					t.Error("SetCell shares memory")
				}
				if !sameField(f, countingField(f.Wide, f.High)) {
					t.Fatal("SetCell changes its argument", f)
				}
			}
		}
	}
}

func TestSetCellReplacesMissing(t *testing.T) {
	f := fieldOf(2, 1, gone, gone)
	g, ok := impl.SetCell(f, 1, 0, -9000)
	expectField(t, "a value for Missing", g, ok, fieldOf(2, 1, gone, -9000))
	g, ok = impl.SetCell(g, 1, 0, gone)
	expectField(t, "Missing again", g, ok, f)
}

func TestSetCellRejectsValues(t *testing.T) {
	for _, value := range badCells() {
		f, ok := impl.SetCell(countingField(3, 2), 1, 1, value)
		expectNoField(t, "SetCell to "+strconv.Itoa(value), f, ok)
	}
}

func TestSetCellDoesNotRepairAField(t *testing.T) {
	f, ok := impl.SetCell(fieldOf(2, 1, 9001, 0), 0, 0, 5)
	expectNoField(t, "SetCell over an invalid cell", f, ok)
}

func TestFiguresOfFields(t *testing.T) {
	for _, c := range []struct {
		field                       impl.Field
		missing, least, most, total int
	}{
		{fieldOf(3, 2, 1, 2, 3, gone, -5, 6), 1, -5, 6, 7},
		{fieldOf(1, 1, 0), 0, 0, 0, 0},
		{fieldOf(1, 1, 7), 0, 7, 7, 7},
		{fieldOf(1, 1, -7), 0, -7, -7, -7},
		{fieldOf(2, 1, gone, 7), 1, 7, 7, 7},
		{fieldOf(2, 1, 7, gone), 1, 7, 7, 7},
		{fieldOf(2, 1, gone, -7), 1, -7, -7, -7},
		{fieldOf(1, 3, gone, 0, gone), 2, 0, 0, 0},
		{fieldOf(3, 1, -1, -2, -3), 0, -3, -1, -6},
		{fieldOf(3, 1, 3, 2, 1), 0, 1, 3, 6},
		{fieldOf(2, 2, 9000, -9000, gone, 0), 1, -9000, 9000, 0},
		{fieldOf(2, 1, -9000, -8999), 0, -9000, -8999, -17999},
		{fieldOf(8, 8, filled(64, 9000)...), 0, 9000, 9000, 576000},
		{fieldOf(8, 8, filled(64, -9000)...), 0, -9000, -9000, -576000},
		{fieldOf(8, 8, append(filled(63, gone), 5)...), 63, 5, 5, 5},
		{countingField(8, 8), 0, 1, 64, 2080},
	} {
		if n, ok := impl.CountMissing(c.field); !ok || n != c.missing {
			t.Errorf("CountMissing(%v) = %d, %v", c.field, n, ok)
		}
		if a, b, ok := impl.FieldRange(c.field); !ok || a != c.least || b != c.most {
			t.Errorf("FieldRange(%v) = %d, %d, %v", c.field, a, b, ok)
		}
		if n, ok := impl.FieldTotal(c.field); !ok || n != c.total {
			t.Errorf("FieldTotal(%v) = %d, %v", c.field, n, ok)
		}
	}
}

func TestFiguresOfMissingFields(t *testing.T) {
	for _, size := range []int{1, 3, 8} {
		f := fieldOf(size, size, filled(size*size, gone)...)
		if n, ok := impl.CountMissing(f); !ok || n != size*size {
			t.Errorf("CountMissing = %d, %v", n, ok)
		}
		if a, b, ok := impl.FieldRange(f); ok || a != 0 || b != 0 {
			t.Errorf("FieldRange = %d, %d, %v", a, b, ok)
		}
		if n, ok := impl.FieldTotal(f); !ok || n != 0 {
			t.Errorf("FieldTotal = %d, %v", n, ok)
		}
	}
}

func TestExtremesAreFoundInEveryCell(t *testing.T) {
	for at := range 6 {
		for _, extreme := range []int{9000, -9000} {
			cells := []int{gone, 1, 2, 3, 4, gone}
			cells[at] = extreme
			least, most := 1, 4
			if at == 1 {
				least = 2
			}
			if at == 4 {
				most = 3
			}
			a, b, ok := impl.FieldRange(fieldOf(3, 2, cells...))
			if !ok || a != min(least, extreme) || b != max(most, extreme) {
				t.Errorf("FieldRange(%v) = %d, %d, %v", cells, a, b, ok)
			}
		}
	}
}

func TestSubFieldOfEveryPlace(t *testing.T) {
	for _, size := range [][2]int{{4, 3}, {3, 4}, {8, 8}, {1, 1}} {
		f := countingField(size[0], size[1])
		for y := -1; y <= f.High; y++ {
			for x := -1; x <= f.Wide; x++ {
				checkPartsAt(t, f, x, y)
			}
		}
	}
}

// checkPartsAt takes the parts of all shapes at one place.
func checkPartsAt(t *testing.T, f impl.Field, x int, y int) {
	for high := -1; high <= f.High+1; high++ {
		for wide := -1; wide <= f.Wide+1; wide++ {
			part, ok := impl.SubField(f, x, y, wide, high)
			if x < 0 || y < 0 || wide < 1 || high < 1 || x+wide > f.Wide || y+high > f.High {
				expectNoField(t, "SubField", part, ok)
				continue
			}
			cells := []int{}
			for j := y; j < y+high; j++ {
				for i := x; i < x+wide; i++ {
					cells = append(cells, f.Cells[j*f.Wide+i])
				}
			}
			expectField(t, "SubField", part, ok, fieldOf(wide, high, cells...))
			if shareElements(part.Cells, f.Cells) {
				t.Error("SubField shares memory")
			}
		}
	}
}

func TestSubFieldKeepsMissing(t *testing.T) {
	f := fieldOf(3, 2, gone, gone, 3, 4, gone, -9000)
	part, ok := impl.SubField(f, 1, 0, 2, 2)
	expectField(t, "right part", part, ok, fieldOf(2, 2, gone, 3, gone, -9000))
	part, ok = impl.SubField(f, 0, 0, 2, 1)
	expectField(t, "all Missing", part, ok, fieldOf(2, 1, gone, gone))
	part, ok = impl.SubField(f, 0, 0, 3, 2)
	expectField(t, "the whole", part, ok, f)
	if shareElements(part.Cells, f.Cells) {
		t.Error("the whole shares memory")
	}
}

func TestSubFieldDoesNotOverflow(t *testing.T) {
	f := countingField(8, 8)
	far := []int{math.MaxInt, math.MaxInt - 1, math.MaxInt - 7, math.MinInt, math.MinInt + 1, 1 << 32, -(1 << 32), 9, -1}
	for _, n := range far {
		for _, m := range append(far, 0, 1, 8) {
			for _, p := range [][4]int{
				{n, 0, m, 1}, {0, n, 1, m}, {m, 0, n, 1}, {0, m, 1, n}, {n, m, 1, 1}, {m, n, 1, 1}, {1, 1, n, m}, {1, 1, m, n},
				{n, n, m, m}, {m, m, n, n},
			} {
				part, ok := impl.SubField(f, p[0], p[1], p[2], p[3])
				expectNoField(t, "SubField", part, ok)
			}
		}
	}
}

func TestSubFieldDoesNotCutAwayInvalidCells(t *testing.T) {
	part, ok := impl.SubField(fieldOf(2, 1, 5, -9998), 0, 0, 1, 1)
	expectNoField(t, "SubField beside an invalid cell", part, ok)
}

func TestFieldsAndTheirTexts(t *testing.T) {
	for _, w := range writtenFields() {
		if text, ok := impl.FieldText(w.field); !ok || text != w.text {
			t.Errorf("FieldText(%v) = %q, %v", w.field, text, ok)
		}
		f, ok := impl.ParseField(w.text)
		expectField(t, "ParseField", f, ok, w.field)
	}
}

func TestEveryValueIsRecovered(t *testing.T) {
	for n := -impl.MaxValue; n <= impl.MaxValue; n++ {
		f := fieldOf(3, 2, n, gone, 0, gone, n, n)
		digits := strconv.Itoa(n)
		text, ok := impl.FieldText(f)
		if want := digits + " . 0\n. " + digits + " " + digits + "\n"; !ok || text != want {
			t.Fatalf("FieldText of %d = %q, %v", n, text, ok)
		}
		back, ok := impl.ParseField(text)
		if !ok || !sameField(back, f) {
			t.Fatalf("ParseField(%q) = %v, %v", text, back, ok)
		}
	}
}

func TestEveryShapeIsRecovered(t *testing.T) {
	for wide := 1; wide <= impl.MaxSide; wide++ {
		for high := 1; high <= impl.MaxSide; high++ {
			f := countingField(wide, high)
			for i := range f.Cells {
				changed := fieldOf(wide, high, slices.Clone(f.Cells)...)
				changed.Cells[i] = gone
				text, ok := impl.FieldText(changed)
				if !ok || strings.Count(text, "\n") != high || strings.Count(text, " ") != high*(wide-1) {
					t.Fatalf("FieldText(%v) = %q, %v", changed, text, ok)
				}
				back, ok := impl.ParseField(text)
				expectField(t, "ParseField", back, ok, changed)
			}
		}
	}
}

func TestTextsOfNoField(t *testing.T) {
	nine := "1 2 3 4 5 6 7 8 9\n"
	for _, s := range []string{
		"", "\n", "\n\n", " ", " \n", "  \n", "1", "1 2", ".", "1\n2", "1 2\n3 4", "1\n\n", "\n1\n", "1\n\n2\n",
		"1 2\n3\n", "1\n2 3\n", "1 2\n3 4 5\n", "1 2\n3 4\n5\n", "1 2 3\n4 5\n6 7 8\n",
		"1  2\n", " 1\n", "1 \n", "1 2 \n", " 1 2\n", "1 2\n 3 4\n", "1\t2\n", "1,2\n", "1\r\n", "1 2\r\n3 4\r\n", "1\n\r", "1\v\n",
		"01\n", "00\n", "-0\n", "-01\n", "+1\n", "+0\n", "--1\n", "-\n", "1-\n", "- 1\n", "007\n", "1 02\n",
		"9001\n", "-9001\n", "-9999\n", "-9998\n", "-10000\n", "9999\n", "10000\n", "99999\n", "1000000\n", "1 -9999\n", "-9999 1\n",
		"-9999\n.\n", "18446744073709551616\n", "18446744073709551617\n", "-18446744073709551617\n", "55537\n", "4294957297\n",
		"..\n", ".0\n", "0.\n", "1.0\n", "-.\n", ". .. .\n", "-9999.\n", "a\n", "x 1\n", "1e3\n", "0x1\n", "1_0\n", "Missing\n", "NaN\n",
		"\u0661\n", "\uff11\n", "\u22121\n", "1\u00a02\n", "\xff\n", "\x001\n", "1\x00\n", "1\n\x00",
		nine, strings.Repeat(nine, 2), strings.Repeat("1\n", 9), strings.Repeat(nine, 9), strings.Repeat(". ", 8) + ".\n",
		strings.Repeat(".\n", 9), strings.Repeat("1 2 3 4 5 6 7 8\n", 9), strings.Repeat("1 2 3 4 5 6 7 8\n", 8) + "\n",
		strings.Repeat("1\n", 3000), strings.Repeat("1 ", 3000) + "1\n", strings.Repeat("0", 5000) + "\n", strings.Repeat("\n", 5000),
		strings.Repeat(" ", 5000) + "\n", strings.Repeat("1", 1000000) + "\n",
	} {
		f, ok := impl.ParseField(s)
		expectNoField(t, "ParseField("+strconv.Quote(s[:min(len(s), 40)])+")", f, ok)
	}
}

// isFieldText states what the text of a field is, apart from the program.
func isFieldText() func(string) bool {
	cell := `(?:\.|0|-?(?:[1-9][0-9]{0,2}|[1-8][0-9]{3}|9000))`
	shape := regexp.MustCompile(`\A(?:` + cell + `(?: ` + cell + `){0,7}\n){1,8}\z`)
	return func(s string) bool {
		if !shape.MatchString(s) {
			return false
		}
		for _, line := range strings.SplitAfter(s, "\n") {
			first := s[:strings.Index(s, "\n")]
			if line != "" && strings.Count(line, " ") != strings.Count(first, " ") {
				return false
			}
		}
		return true
	}
}

// checkText fails unless a text is parsed exactly if it is the text of a field, and recovered.
func checkText(t *testing.T, s string, is bool) {
	t.Helper()
	f, ok := impl.ParseField(s)
	if ok != is {
		t.Fatalf("ParseField(%q) = %v, %v", s, f, ok)
	}
	if !ok {
		expectNoField(t, "ParseField", f, ok)
		return
	}
	if !impl.IsValidField(f) {
		t.Fatalf("ParseField(%q) = %v, not valid", s, f)
	}
	if back, ok := impl.FieldText(f); !ok || back != s {
		t.Fatalf("%q is read as %v with the text %q, %v", s, f, back, ok)
	}
}

func TestParseFieldAcceptsExactlyTheTexts(t *testing.T) {
	is := isFieldText()
	found := 0
	for _, s := range stringsOver("09.- \n", 7) {
		yes := is(s)
		checkText(t, s, yes)
		if yes {
			found++
		}
	}
	if found == 0 {
		t.Error("no text of a field among the strings")
	}
}

func TestChangedTexts(t *testing.T) {
	is := isFieldText()
	for _, s := range []string{"0\n", "1 2 3\n. -5 6\n", "-9000 9000\n. .\n", "1 2 3 4 5 6 7 8\n", "1\n2\n3\n4\n5\n6\n7\n8\n"} {
		for at := 0; at <= len(s); at++ {
			for c := range 256 {
				by := string([]byte{byte(c)})
				checkText(t, s[:at]+by+s[at:], is(s[:at]+by+s[at:]))
				if at < len(s) {
					checkText(t, s[:at]+by+s[at+1:], is(s[:at]+by+s[at+1:]))
				}
			}
			checkText(t, s[:at], is(s[:at]))
			checkText(t, s[at:], is(s[at:]))
			if at < len(s) {
				checkText(t, s[:at]+s[at+1:], is(s[:at]+s[at+1:]))
			}
		}
	}
}

func TestMissingIsNoNumberInATextOfManyCells(t *testing.T) {
	for at := range 6 {
		words := []string{"1", "2", "3", "4", "5", "6"}
		for _, bad := range append(badCells(), gone) {
			words[at] = strconv.Itoa(bad)
			f, ok := impl.ParseField(strings.Join(words[:3], " ") + "\n" + strings.Join(words[3:], " ") + "\n")
			expectNoField(t, "ParseField with "+words[at], f, ok)
		}
	}
}

func TestParsedFieldsAreSeparate(t *testing.T) {
	text := "1 2\n. 4\n"
	a, _ := impl.ParseField(text)
	b, _ := impl.ParseField(text)
	if shareElements(a.Cells, b.Cells) {
		t.Error("two results share memory")
	}
	for i := range a.Cells[:cap(a.Cells)] {
		a.Cells[:cap(a.Cells)][i] = 77
	}
	again, ok := impl.ParseField(text)
	expectField(t, "ParseField again", again, ok, fieldOf(2, 2, 1, 2, gone, 4))
}

func TestInvalidFieldsGiveZeroValues(t *testing.T) {
	for name, f := range invalidFields() {
		for _, p := range [][2]int{{0, 0}, {1, 0}, {0, 1}, {-1, -1}, {math.MaxInt, math.MinInt}} {
			if n, ok := impl.CellAt(f, p[0], p[1]); ok || n != 0 {
				t.Errorf("CellAt of %s = %d, %v", name, n, ok)
			}
			g, ok := impl.SetCell(f, p[0], p[1], 1)
			expectNoField(t, "SetCell of "+name, g, ok)
			for _, shape := range [][2]int{{1, 1}, {0, 0}, {-1, -1}, {f.Wide, f.High}} {
				g, ok = impl.SubField(f, p[0], p[1], shape[0], shape[1])
				expectNoField(t, "SubField of "+name, g, ok)
			}
		}
		if n, ok := impl.CountMissing(f); ok || n != 0 {
			t.Errorf("CountMissing of %s = %d, %v", name, n, ok)
		}
		if a, b, ok := impl.FieldRange(f); ok || a != 0 || b != 0 {
			t.Errorf("FieldRange of %s = %d, %d, %v", name, a, b, ok)
		}
		if n, ok := impl.FieldTotal(f); ok || n != 0 {
			t.Errorf("FieldTotal of %s = %d, %v", name, n, ok)
		}
		if s, ok := impl.FieldText(f); ok || s != "" {
			t.Errorf("FieldText of %s = %q, %v", name, s, ok)
		}
	}
}

func TestFieldFunctionsLeaveTheirArgument(t *testing.T) {
	for _, w := range writtenFields() {
		size := len(w.field.Cells)
		room := append(slices.Clone(w.field.Cells), 12345, gone, 1)
		before := slices.Clone(room)
		f := fieldOf(w.field.Wide, w.field.High, room[:size]...)
		impl.IsValidField(f)
		impl.CellAt(f, 0, 0)
		impl.SetCell(f, 0, 0, 5)
		impl.SetCell(f, f.Wide-1, f.High-1, gone)
		impl.CountMissing(f)
		impl.FieldRange(f)
		impl.FieldTotal(f)
		impl.SubField(f, 0, 0, f.Wide, f.High)
		impl.SubField(f, f.Wide-1, f.High-1, 1, 1)
		impl.FieldText(f)
		if !slices.Equal(room, before) {
			t.Errorf("modified: %v", room)
		}
	}
}
