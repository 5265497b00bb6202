package tests

import (
	"math"
	"math/big"
	"regexp"
	"strconv"
	"strings"
	"testing"

	"loop.example/g00889/impl"
)

type knownUnit struct {
	unit int
	kind string
	word string
}

// knownUnits is the document's table, apart from the program.
func knownUnits() []knownUnit {
	return []knownUnit{
		{1, "temperature", "C"}, {2, "temperature", "F"}, {3, "temperature", "K"},
		{4, "speed", "m/s"}, {5, "speed", "kt"}, {6, "speed", "km/h"},
		{7, "length", "mm"}, {8, "length", "in"},
	}
}

// noUnits are numbers of no unit; some are a unit's number in fewer bits.
func noUnits() []int {
	return []int{
		0, -1, -2, -8, 9, 10, 16, 100, 256 + 1, 1<<16 + 4, 1<<32 + 1, 1<<32 + 8, 1<<62 + 7,
		math.MaxInt32, math.MinInt32, math.MaxInt, math.MinInt, math.MinInt + 1,
	}
}

// noTenths are out of the range of quantities; some are in it in fewer bits, or once they are
// multiplied by a number of a conversion.
func noTenths() []int {
	return []int{
		impl.MaxTenths + 1, -impl.MaxTenths - 1, 100001, -100001, 999999, -999999, 1 << 32, -(1 << 32), 1<<32 + 5,
		math.MaxInt32, math.MinInt32, 1 << 60, 1 << 61, 1 << 62, 1 << 63 / 9, 1<<63/18 + 1, 1<<63/900 + 1, -(1 << 60), -(1 << 61), -(1 << 62),
		math.MaxInt, math.MaxInt - 1, math.MaxInt / 2, math.MaxInt/10 + 1, math.MinInt, math.MinInt + 1, math.MinInt / 2, math.MinInt/10 - 1,
	}
}

func TestLimitsOfUnits(t *testing.T) {
	units := []int{
		impl.UnitCelsius, impl.UnitFahrenheit, impl.UnitKelvin, impl.UnitMeters,
		impl.UnitKnots, impl.UnitKilometers, impl.UnitMillimeter, impl.UnitInch,
	}
	for i, unit := range units {
		if unit != i+1 {
			t.Error("unit", i+1, "is", unit)
		}
	}
	if impl.MaxTenths != 99999 {
		t.Error("limit", impl.MaxTenths)
	}
}

func TestUnitsAndTheirWords(t *testing.T) {
	for _, u := range knownUnits() {
		if word, ok := impl.UnitWord(u.unit); !ok || word != u.word {
			t.Errorf("UnitWord(%d) = %q, %v", u.unit, word, ok)
		}
		if unit, ok := impl.ParseUnit(u.word); !ok || unit != u.unit {
			t.Errorf("ParseUnit(%q) = %d, %v", u.word, unit, ok)
		}
	}
}

func TestNumbersOfNoUnitHaveNoWord(t *testing.T) {
	for _, unit := range noUnits() {
		if word, ok := impl.UnitWord(unit); ok || word != "" {
			t.Errorf("UnitWord(%d) = %q, %v", unit, word, ok)
		}
	}
}

func TestWordsOfNoUnit(t *testing.T) {
	for _, s := range []string{
		"", " ", "c", "f", "k", "CC", "C ", " C", "C\n", "C\x00", "\x00", "\u00b0C", "\u2103", "\u212a", "CF", "Celsius", "Kelvin",
		"m", "s", "/", "m/", "/s", "ms", "m/S", "M/s", "m/s ", "m/s/", "m/ss", "mm/s", "m /s", "m s",
		"KT", "Kt", "k", "kts", "kn", "km", "km/", "km/H", "KM/H", "km/h ", "kmh", "kph", "km/s", "m/h",
		"MM", "mM", "mmm", "cm", "i", "n", "IN", "In", "inch", "in ", "1", "8", ".", "-", "\xff", strings.Repeat("m", 100000),
	} {
		if unit, ok := impl.ParseUnit(s); ok || unit != 0 {
			t.Errorf("ParseUnit(%.40q) = %d, %v", s, unit, ok)
		}
	}
}

func TestParseUnitAcceptsExactlyTheWords(t *testing.T) {
	found := 0
	for _, s := range stringsOver("CFKmskthin/ ", 4) {
		unit, ok := impl.ParseUnit(s)
		want := 0
		for _, u := range knownUnits() {
			if u.word == s {
				want = u.unit
				found++
			}
		}
		if unit != want || ok != (want != 0) {
			t.Fatalf("ParseUnit(%q) = %d, %v", s, unit, ok)
		}
	}
	if found != 8 {
		t.Error("words found:", found)
	}
}

func TestKindsOfEveryPair(t *testing.T) {
	for _, a := range knownUnits() {
		for _, b := range knownUnits() {
			if same, ok := impl.SameKind(a.unit, b.unit); !ok || same != (a.kind == b.kind) {
				t.Errorf("SameKind(%d, %d) = %v, %v", a.unit, b.unit, same, ok)
			}
		}
		for _, no := range noUnits() {
			for _, pair := range [][2]int{{a.unit, no}, {no, a.unit}, {no, no}, {no, 0}, {0, no}} {
				if same, ok := impl.SameKind(pair[0], pair[1]); ok || same {
					t.Errorf("SameKind(%d, %d) = %v, %v", pair[0], pair[1], same, ok)
				}
			}
		}
	}
}

// conversion is the exact fraction (num * x + add) / den of a pair of units.
type conversion struct {
	from, to      int
	num, add, den int
}

// conversions are worked out by hand from the document's table, one for every pair of a kind.
func conversions() []conversion {
	all := []conversion{
		{1, 2, 9, 1600, 5}, {2, 1, 5, -1600, 9},
		{1, 3, 2, 5463, 2}, {3, 1, 2, -5463, 2},
		{2, 3, 10, 45967, 18}, {3, 2, 18, -45967, 10},
		{4, 5, 900, 0, 463}, {5, 4, 463, 0, 900},
		{4, 6, 18, 0, 5}, {6, 4, 5, 0, 18},
		{5, 6, 463, 0, 250}, {6, 5, 250, 0, 463},
		{7, 8, 5, 0, 127}, {8, 7, 127, 0, 5},
	}
	for _, u := range knownUnits() {
		all = append(all, conversion{u.unit, u.unit, 1, 0, 1})
	}
	return all
}

// tableFraction is the exact result of a conversion by way of the basic unit, as the document's
// table has it.
func tableFraction(x int, from int, to int) *big.Rat {
	basic := big.NewRat(int64(x), 1)
	rat := func(num int64, den int64) *big.Rat { return big.NewRat(num, den) }
	switch from {
	case impl.UnitFahrenheit:
		basic.Sub(basic, rat(320, 1)).Mul(basic, rat(5, 9))
	case impl.UnitKelvin:
		basic.Sub(basic, rat(27315, 10))
	case impl.UnitKnots:
		basic.Mul(basic, rat(1852, 3600))
	case impl.UnitKilometers:
		basic.Mul(basic, rat(5, 18))
	case impl.UnitInch:
		basic.Mul(basic, rat(127, 5))
	}
	switch to {
	case impl.UnitFahrenheit:
		basic.Mul(basic, rat(9, 5)).Add(basic, rat(320, 1))
	case impl.UnitKelvin:
		basic.Add(basic, rat(27315, 10))
	case impl.UnitKnots:
		basic.Mul(basic, rat(3600, 1852))
	case impl.UnitKilometers:
		basic.Mul(basic, rat(18, 5))
	case impl.UnitInch:
		basic.Mul(basic, rat(5, 127))
	}
	return basic
}

func TestConversionsByHandAreThoseOfTheTable(t *testing.T) {
	pairs := 0
	for _, a := range knownUnits() {
		for _, b := range knownUnits() {
			if a.kind == b.kind {
				pairs++
			}
		}
	}
	all := conversions()
	if len(all) != pairs {
		t.Error("conversions:", len(all), "of", pairs)
	}
	for _, c := range all {
		for _, x := range []int{-99999, -320, -1, 0, 1, 7, 320, 99999} {
			byHand := big.NewRat(int64(c.num*x+c.add), int64(c.den))
			if byHand.Cmp(tableFraction(x, c.from, c.to)) != 0 {
				t.Errorf("%v of %d by hand is %v", c, x, byHand)
			}
		}
	}
}

func absolute(n int) int { return max(n, -n) }

// isNearest reports whether y is the whole number nearest to num / den, away from 0 in the
// middle.
func isNearest(num int, den int, y int) bool {
	twice := absolute(2*num - 2*den*y)
	return twice < den || twice == den && absolute(den*y) > absolute(num)
}

func TestIsNearest(t *testing.T) {
	for _, c := range []struct{ num, den, want int }{
		{5, 2, 3}, {-5, 2, -3}, {1, 2, 1}, {-1, 2, -1}, {0, 2, 0}, {7, 3, 2}, {8, 3, 3}, {-7, 3, -2}, {-8, 3, -3}, {4, 1, 4},
	} {
		for y := c.want - 2; y <= c.want+2; y++ {
			if isNearest(c.num, c.den, y) != (y == c.want) {
				t.Error("nearest to", c.num, "/", c.den, "is", y)
			}
		}
	}
}

func TestEveryConversion(t *testing.T) {
	for _, c := range conversions() {
		last, begun := 0, false
		for x := -impl.MaxTenths; x <= impl.MaxTenths; x++ {
			num := c.num*x + c.add
			// From half a tenth beyond the limit on, the rounded number is beyond it.
			fits := 2*absolute(num) < c.den*(2*impl.MaxTenths+1)
			y, ok := impl.ConvertTenths(x, c.from, c.to)
			if ok != fits || !ok && y != 0 || ok && !isNearest(num, c.den, y) {
				t.Fatalf("ConvertTenths(%d, %d, %d) = %d, %v", x, c.from, c.to, y, ok)
			}
			if ok && begun && y < last {
				t.Fatalf("%d of %d is converted to %d, %d to %d", x, c.from, y, x-1, last)
			}
			if ok {
				last, begun = y, true
			}
		}
		if !begun {
			t.Error("never converted:", c)
		}
	}
}

func TestConversionsInTheMiddle(t *testing.T) {
	for _, c := range [][4]int{
		{0, 1, 3, 2732}, {1, 1, 3, 2733}, {-1, 1, 3, 2731}, {-2730, 1, 3, 2}, {-2731, 1, 3, 1}, {-2732, 1, 3, -1}, {-2733, 1, 3, -2}, {-3000, 1, 3, -269},
		{0, 3, 1, -2732}, {2730, 3, 1, -2}, {2731, 3, 1, -1}, {2732, 3, 1, 1}, {2733, 3, 1, 2}, {-1, 3, 1, -2733}, {3000, 3, 1, 269},
		{5, 2, 3, 2557}, {14, 2, 3, 2562}, {-8995, 2, 3, -2444}, {4, 3, 2, -4590}, {2559, 3, 2, 10}, {2549, 3, 2, -9},
		{450, 5, 4, 232}, {-450, 5, 4, -232}, {9, 6, 4, 3}, {-9, 6, 4, -3}, {27, 6, 4, 8}, {-27, 6, 4, -8},
		{125, 5, 6, 232}, {-125, 5, 6, -232}, {375, 5, 6, 695}, {-375, 5, 6, -695},
	} {
		exact := tableFraction(c[0], c[1], c[2])
		if exact.Denom().Int64() != 2 {
			t.Errorf("not in the middle: %v is %v", c, exact)
		}
		if y, ok := impl.ConvertTenths(c[0], c[1], c[2]); !ok || y != c[3] {
			t.Errorf("ConvertTenths(%d, %d, %d) = %d, %v, not %d", c[0], c[1], c[2], y, ok, c[3])
		}
	}
}

func TestConversionsNearNothing(t *testing.T) {
	for _, c := range [][4]int{
		{0, 1, 2, 320}, {-400, 1, 2, -400}, {-400, 2, 1, -400}, {-178, 1, 2, 0}, {-177, 1, 2, 1}, {-179, 1, 2, -2},
		{0, 2, 1, -178}, {320, 2, 1, 0}, {319, 2, 1, -1}, {321, 2, 1, 1}, {-1, 2, 1, -178}, {0, 3, 2, -4597}, {0, 2, 3, 2554}, {-4597, 2, 3, 0},
		{0, 4, 5, 0}, {1, 4, 5, 2}, {-1, 4, 5, -2}, {1, 5, 4, 1}, {-1, 5, 4, -1}, {1, 6, 4, 0}, {-1, 6, 4, 0}, {2, 6, 4, 1}, {-2, 6, 4, -1},
		{0, 7, 8, 0}, {12, 7, 8, 0}, {13, 7, 8, 1}, {-12, 7, 8, 0}, {-13, 7, 8, -1}, {1, 8, 7, 25}, {-1, 8, 7, -25}, {0, 8, 7, 0},
	} {
		if y, ok := impl.ConvertTenths(c[0], c[1], c[2]); !ok || y != c[3] {
			t.Errorf("ConvertTenths(%d, %d, %d) = %d, %v, not %d", c[0], c[1], c[2], y, ok, c[3])
		}
	}
}

func TestConversionsAreMadeInOneStep(t *testing.T) {
	for _, c := range []struct{ x, from, basic, to, want int }{
		{1, impl.UnitFahrenheit, impl.UnitCelsius, impl.UnitKelvin, 2554},
		{1, impl.UnitKelvin, impl.UnitCelsius, impl.UnitFahrenheit, -4595},
		{1, impl.UnitKnots, impl.UnitMeters, impl.UnitKilometers, 2},
		{2, impl.UnitKilometers, impl.UnitMeters, impl.UnitKnots, 1},
	} {
		y, ok := impl.ConvertTenths(c.x, c.from, c.to)
		if !ok || y != c.want {
			t.Errorf("ConvertTenths(%d, %d, %d) = %d, %v", c.x, c.from, c.to, y, ok)
		}
		half, _ := impl.ConvertTenths(c.x, c.from, c.basic)
		if twice, _ := impl.ConvertTenths(half, c.basic, c.to); twice == c.want {
			t.Error("two steps give the same:", c)
		}
	}
}

func TestConversionsAtTheLimits(t *testing.T) {
	for _, c := range []struct {
		x, from, to, want int
		ok                bool
	}{
		{55377, 1, 2, 99999, true}, {55378, 1, 2, 0, false}, {-55733, 1, 2, -99999, true}, {-55734, 1, 2, 0, false},
		{97267, 1, 3, 99999, true}, {97268, 1, 3, 0, false}, {-97267, 3, 1, -99999, true}, {-97268, 3, 1, 0, false},
		{99999, 3, 1, 97268, true}, {-99999, 1, 3, -97268, true}, {99999, 1, 1, 99999, true}, {-99999, 8, 8, -99999, true},
		{27777, 4, 6, 99997, true}, {27778, 4, 6, 0, false}, {-27777, 4, 6, -99997, true}, {-27778, 4, 6, 0, false},
		{3936, 8, 7, 99974, true}, {3937, 8, 7, 0, false}, {-3936, 8, 7, -99974, true}, {-3937, 8, 7, 0, false},
		{99999, 7, 8, 3937, true}, {-99999, 7, 8, -3937, true}, {99999, 6, 4, 27778, true}, {99999, 6, 5, 53995, true},
		{99999, 4, 5, 0, false}, {99999, 8, 7, 0, false}, {-99999, 5, 6, 0, false}, {-99999, 3, 2, 0, false}, {99999, 1, 2, 0, false},
	} {
		if y, ok := impl.ConvertTenths(c.x, c.from, c.to); ok != c.ok || y != c.want {
			t.Errorf("ConvertTenths(%d, %d, %d) = %d, %v", c.x, c.from, c.to, y, ok)
		}
	}
}

func TestGreaterQuantitiesAreNotConvertedToSmaller(t *testing.T) {
	for _, c := range conversions() {
		for x := -impl.MaxTenths; x <= impl.MaxTenths; x += 1009 {
			small, okSmall := impl.ConvertTenths(x, c.from, c.to)
			for _, more := range []int{1, 2, 3, 17, 500, 40000} {
				great, okGreat := impl.ConvertTenths(x+more, c.from, c.to)
				if okSmall && okGreat && great < small {
					t.Fatalf("%d of %d becomes %d, and %d becomes %d of %d", x, c.from, small, x+more, great, c.to)
				}
			}
		}
	}
}

func expectNoConversion(t *testing.T, x int, from int, to int) {
	t.Helper()
	if y, ok := impl.ConvertTenths(x, from, to); ok || y != 0 {
		t.Errorf("ConvertTenths(%d, %d, %d) = %d, %v", x, from, to, y, ok)
	}
}

func TestConvertTenthsRejects(t *testing.T) {
	for _, a := range knownUnits() {
		for _, b := range knownUnits() {
			for _, x := range noTenths() {
				expectNoConversion(t, x, a.unit, b.unit)
			}
			if a.kind != b.kind {
				for _, x := range []int{0, 1, -1, 99999, -99999} {
					expectNoConversion(t, x, a.unit, b.unit)
				}
			}
		}
		for _, no := range noUnits() {
			for _, x := range []int{0, 1, -1, 99999, -99999, math.MaxInt, math.MinInt} {
				expectNoConversion(t, x, a.unit, no)
				expectNoConversion(t, x, no, a.unit)
				expectNoConversion(t, x, no, no)
			}
		}
	}
}

// writtenTenths writes a number of tenths by its digits, apart from the program.
func writtenTenths(x int) string {
	digits := strconv.Itoa(absolute(x))
	if len(digits) < 2 {
		digits = "0" + digits
	}
	text := digits[:len(digits)-1] + "." + digits[len(digits)-1:]
	if x < 0 {
		return "-" + text
	}
	return text
}

func TestQuantitiesAndTheirTexts(t *testing.T) {
	for _, c := range []struct {
		x, unit int
		text    string
	}{
		{-5, 1, "-0.5 C"}, {5, 1, "0.5 C"}, {0, 1, "0.0 C"}, {0, 2, "0.0 F"}, {0, 6, "0.0 km/h"}, {-1, 2, "-0.1 F"}, {-9, 3, "-0.9 K"},
		{-10, 4, "-1.0 m/s"}, {10, 4, "1.0 m/s"}, {9, 5, "0.9 kt"}, {11, 5, "1.1 kt"}, {1203, 6, "120.3 km/h"}, {-100, 7, "-10.0 mm"},
		{99999, 8, "9999.9 in"}, {-99999, 8, "-9999.9 in"}, {99990, 1, "9999.0 C"}, {1001, 7, "100.1 mm"}, {-15, 3, "-1.5 K"},
	} {
		if text, ok := impl.QuantityText(c.x, c.unit); !ok || text != c.text {
			t.Errorf("QuantityText(%d, %d) = %q, %v", c.x, c.unit, text, ok)
		}
		if x, unit, ok := impl.ParseQuantity(c.text); !ok || x != c.x || unit != c.unit {
			t.Errorf("ParseQuantity(%q) = %d, %d, %v", c.text, x, unit, ok)
		}
	}
}

func TestEveryQuantityIsRecovered(t *testing.T) {
	for _, u := range knownUnits() {
		for x := -impl.MaxTenths; x <= impl.MaxTenths; x++ {
			text, ok := impl.QuantityText(x, u.unit)
			if want := writtenTenths(x) + " " + u.word; !ok || text != want {
				t.Fatalf("QuantityText(%d, %d) = %q, %v", x, u.unit, text, ok)
			}
			if y, unit, ok := impl.ParseQuantity(text); !ok || y != x || unit != u.unit {
				t.Fatalf("ParseQuantity(%q) = %d, %d, %v", text, y, unit, ok)
			}
		}
	}
}

func TestQuantityTextRejects(t *testing.T) {
	for _, u := range knownUnits() {
		for _, x := range noTenths() {
			if text, ok := impl.QuantityText(x, u.unit); ok || text != "" {
				t.Errorf("QuantityText(%d, %d) = %q, %v", x, u.unit, text, ok)
			}
		}
	}
	for _, no := range noUnits() {
		for _, x := range []int{0, -5, 99999, math.MaxInt, math.MinInt} {
			if text, ok := impl.QuantityText(x, no); ok || text != "" {
				t.Errorf("QuantityText(%d, %d) = %q, %v", x, no, text, ok)
			}
		}
	}
}

func expectNoQuantity(t *testing.T, s string) {
	t.Helper()
	if x, unit, ok := impl.ParseQuantity(s); ok || x != 0 || unit != 0 {
		t.Errorf("ParseQuantity(%.40q) = %d, %d, %v", s, x, unit, ok)
	}
}

func TestNumbersOfNoQuantity(t *testing.T) {
	for _, number := range []string{
		"", ".", "-", "-.", "+", "1", "-1", "0", "1.", "-1.", ".5", "-.5", "1.00", "1.05", "1.50", "0.00", "12.34", "01.0", "00.0", "00.5", "-01.0", "-00.5",
		"0001.0", "-0.0", "-0", "+0.0", "+1.0", "+0.5", "-+1.0", "--1.0", "--0.5", "1.-5", "1.+5", "-1.-5", "1.0.", "1..0", "1.0.0", ".1.0", "-.1.0",
		"10000.0", "-10000.0", "10000.1", "99999.9", "999999.9", "1000000.0", "99999", "18446744073709551616.0", "18446744073709551617.5",
		"1844674407370955161.7", "-1844674407370955161.7", "922337203685477580.8", "-922337203685477580.8", "4294967296.0", "429496730.1", "429496729.7",
		"1,0", "1:0", "1 0", "1. 0", "1 .0", "- 1.0", "a", "a.0", "1.a", "0x1.0", "1e1.0", "1.e", "1_0.0", "1.0-", "1.0C", "\u22121.0", "\u0661.0",
		"\uff11.0", "1\u00b70", "1.0\x00", "\x001.0", "1\x00.0", "1.0\n", "1.0\t", "\t1.0", "1\r.0",
	} {
		for _, u := range knownUnits() {
			expectNoQuantity(t, number+" "+u.word)
		}
		expectNoQuantity(t, number)
	}
}

func TestTextsOfNoQuantity(t *testing.T) {
	for _, s := range []string{
		"", " ", "  ", "C", " C", "m/s", "1.0", "1.0C", "1.0 ", "1.0  C", " 1.0 C", "1.0 C ", "1.0 C\n", "1.0\tC", "1.0\nC", "1.0\u00a0C", "1.0 C C",
		"1.0 c", "1.0 f", "1.0 k", "1.0 CF", "1.0 x", "1.0 \u00b0C", "1.0 M/S", "1.0 m", "1.0 m/", "1.0 m /s", "1.0 KT", "1.0 kts", "1.0 km", "1.0 km/H",
		"1.0 kmh", "1.0 MM", "1.0 cm", "1.0 inch", "1.0 \"", "1.0 1", "1.0 1.0", "C 1.0", "1.0 C 1.0 C", "1.0 C,", "1.0 C\x00", "1.0 \xff",
		strings.Repeat(" ", 5000), strings.Repeat("1", 1000000) + ".0 C", "1." + strings.Repeat("0", 1000000) + " C", strings.Repeat("0", 5000) + "1.0 C",
		strings.Repeat("-", 5000) + "1.0 C", "1.0 " + strings.Repeat("m", 1000000), strings.Repeat("1.0 C", 5000),
	} {
		expectNoQuantity(t, s)
	}
}

// isQuantityText states what the text of a quantity is, apart from the program.
func isQuantityText() func(string) bool {
	number := `(?:0\.0|-?0\.[1-9]|-?[1-9][0-9]{0,3}\.[0-9])`
	return regexp.MustCompile(`\A` + number + ` (?:C|F|K|m/s|kt|km/h|mm|in)\z`).MatchString
}

// checkQuantity fails unless a text is parsed exactly if it is the text of a quantity, and
// recovered.
func checkQuantity(t *testing.T, s string, is bool) {
	t.Helper()
	x, unit, ok := impl.ParseQuantity(s)
	if ok != is || !ok && (x != 0 || unit != 0) {
		t.Fatalf("ParseQuantity(%q) = %d, %d, %v", s, x, unit, ok)
	}
	if !ok {
		return
	}
	if back, ok := impl.QuantityText(x, unit); !ok || back != s {
		t.Fatalf("%q is read as %d of %d with the text %q, %v", s, x, unit, back, ok)
	}
}

func TestParseQuantityAcceptsExactlyTheTexts(t *testing.T) {
	is := isQuantityText()
	found := 0
	for _, s := range stringsOver("09.- C", 7) {
		yes := is(s)
		checkQuantity(t, s, yes)
		if yes {
			found++
		}
	}
	if found == 0 {
		t.Error("no text of a quantity among the strings")
	}
	for _, s := range stringsOver("019.-+", 6) {
		for _, end := range []string{" m/s", " kt"} {
			checkQuantity(t, s+end, is(s+end))
		}
	}
}

func TestChangedQuantities(t *testing.T) {
	is := isQuantityText()
	for _, s := range []string{"-0.5 C", "0.0 F", "12.3 K", "120.3 km/h", "-9999.9 in", "9999.9 mm", "1.0 m/s", "10.0 kt"} {
		for at := 0; at <= len(s); at++ {
			for c := range 256 {
				by := string([]byte{byte(c)})
				checkQuantity(t, s[:at]+by+s[at:], is(s[:at]+by+s[at:]))
				if at < len(s) {
					checkQuantity(t, s[:at]+by+s[at+1:], is(s[:at]+by+s[at+1:]))
				}
			}
			checkQuantity(t, s[:at], is(s[:at]))
			checkQuantity(t, s[at:], is(s[at:]))
			if at < len(s) {
				checkQuantity(t, s[:at]+s[at+1:], is(s[:at]+s[at+1:]))
			}
		}
	}
}

func leastSpeeds() []int {
	return []int{0, 3, 16, 34, 55, 80, 108, 139, 172, 208, 245, 285, 327}
}

// firstTenths has, for every unit of speed, the least number of tenths of every force, worked
// out by hand. In km/h, the speeds 55, 80, 245 and 285 are whole numbers of tenths.
func firstTenths() map[int][]int {
	return map[int][]int{
		impl.UnitMeters:     leastSpeeds(),
		impl.UnitKnots:      {0, 6, 32, 67, 107, 156, 210, 271, 335, 405, 477, 554, 636},
		impl.UnitKilometers: {0, 11, 58, 123, 198, 288, 389, 501, 620, 749, 882, 1026, 1178},
	}
}

func TestForcesAtTheirSpeeds(t *testing.T) {
	for unit, firsts := range firstTenths() {
		if len(firsts) != 13 {
			t.Fatal("forces of", unit, len(firsts))
		}
		for n, first := range firsts {
			for _, c := range [][2]int{{first, n}, {first + 1, n}, {first - 1, n - 1}} {
				if c[0] < 0 {
					continue
				}
				if force, ok := impl.BeaufortOf(c[0], unit); !ok || force != c[1] {
					t.Errorf("BeaufortOf(%d, %d) = %d, %v, not %d", c[0], unit, force, ok, c[1])
				}
			}
		}
	}
}

func TestEverySpeedHasItsForce(t *testing.T) {
	speeds := leastSpeeds()
	for _, c := range []struct{ unit, num, den int }{
		{impl.UnitMeters, 1, 1}, {impl.UnitKnots, 463, 900}, {impl.UnitKilometers, 5, 18},
	} {
		want := 0
		for x := 0; x <= impl.MaxTenths; x++ {
			for want < 12 && c.num*x >= c.den*speeds[want+1] {
				want++
			}
			if force, ok := impl.BeaufortOf(x, c.unit); !ok || force != want {
				t.Fatalf("BeaufortOf(%d, %d) = %d, %v, not %d", x, c.unit, force, ok, want)
			}
		}
	}
}

func TestForcesAreNotTakenFromRoundedSpeeds(t *testing.T) {
	for _, c := range [][3]int{{5, impl.UnitKnots, 0}, {10, impl.UnitKilometers, 0}, {66, impl.UnitKnots, 2}, {1177, impl.UnitKilometers, 11}} {
		rounded, _ := impl.ConvertTenths(c[0], c[1], impl.UnitMeters)
		if force, ok := impl.BeaufortOf(rounded, impl.UnitMeters); !ok || force != c[2]+1 {
			t.Errorf("rounded speed %v has the force %d, %v", c, force, ok)
		}
		if force, ok := impl.BeaufortOf(c[0], c[1]); !ok || force != c[2] {
			t.Errorf("BeaufortOf(%d, %d) = %d, %v", c[0], c[1], force, ok)
		}
	}
}

func TestBeaufortOfRejects(t *testing.T) {
	expect := func(x int, unit int) {
		t.Helper()
		if force, ok := impl.BeaufortOf(x, unit); ok || force != 0 {
			t.Errorf("BeaufortOf(%d, %d) = %d, %v", x, unit, force, ok)
		}
	}
	for _, u := range knownUnits() {
		for _, x := range append(noTenths(), -1, -2, -3, -327, -99998, -99999) {
			expect(x, u.unit)
		}
		if u.kind != "speed" {
			for _, x := range []int{0, 1, 3, 327, 99999} {
				expect(x, u.unit)
			}
		}
	}
	for _, no := range noUnits() {
		for _, x := range []int{0, 1, 327, -1, 99999, math.MaxInt, math.MinInt} {
			expect(x, no)
		}
	}
}

func TestRoundTenths(t *testing.T) {
	for _, c := range []struct {
		x, step, want int
		ok            bool
	}{
		{0, 1, 0, true}, {0, 1000, 0, true}, {7, 1, 7, true}, {-7, 1, -7, true}, {99999, 1, 99999, true}, {-99999, 1, -99999, true},
		{25, 10, 30, true}, {-25, 10, -30, true}, {24, 10, 20, true}, {-24, 10, -20, true}, {5, 10, 10, true}, {-5, 10, -10, true}, {4, 10, 0, true}, {-4, 10, 0, true},
		{35, 10, 40, true}, {-35, 10, -40, true}, {1, 2, 2, true}, {-1, 2, -2, true}, {3, 2, 4, true}, {-3, 2, -4, true},
		{1, 3, 0, true}, {2, 3, 3, true}, {-1, 3, 0, true}, {-2, 3, -3, true}, {4, 3, 3, true}, {5, 3, 6, true},
		{499, 1000, 0, true}, {500, 1000, 1000, true}, {-499, 1000, 0, true}, {-500, 1000, -1000, true}, {1499, 1000, 1000, true}, {1500, 1000, 2000, true},
		{99499, 1000, 99000, true}, {99500, 1000, 0, false}, {-99499, 1000, -99000, true}, {-99500, 1000, 0, false}, {99999, 1000, 0, false},
		{99999, 2, 0, false}, {-99999, 2, 0, false}, {99998, 2, 99998, true}, {99999, 3, 99999, true}, {99999, 10, 0, false}, {99994, 10, 99990, true},
		{99995, 10, 0, false}, {-99995, 10, 0, false}, {99999, 9, 99999, true}, {-99999, 9, -99999, true}, {99999, 999, 99900, true},
	} {
		if y, ok := impl.RoundTenths(c.x, c.step); ok != c.ok || y != c.want {
			t.Errorf("RoundTenths(%d, %d) = %d, %v, not %d", c.x, c.step, y, ok, c.want)
		}
	}
}

func TestRoundTenthsOfEveryStep(t *testing.T) {
	for step := 1; step <= 1000; step++ {
		for x := -impl.MaxTenths; x <= impl.MaxTenths; x += 1 + (absolute(x)*7+step)%193 {
			checkRounded(t, x, step)
		}
		for k := -impl.MaxTenths / step; k <= impl.MaxTenths/step; k += 1 + impl.MaxTenths/step/50 {
			for _, x := range []int{k * step, k*step + step/2, k*step - step/2, k*step + (step+1)/2, k*step - (step+1)/2} {
				if absolute(x) <= impl.MaxTenths {
					checkRounded(t, x, step)
				}
			}
		}
		checkRounded(t, impl.MaxTenths, step)
	}
}

// checkRounded fails unless a quantity is rounded to the nearest multiple that is a quantity.
func checkRounded(t *testing.T, x int, step int) {
	t.Helper()
	y, ok := impl.RoundTenths(x, step)
	if ok {
		if y%step != 0 || absolute(y) > impl.MaxTenths || !isNearest(x, step, y/step) {
			t.Fatalf("RoundTenths(%d, %d) = %d", x, step, y)
		}
		return
	}
	// The multiple next to the limit, on the side away from 0, must be the nearest one.
	beyond := impl.MaxTenths/step + 1
	if x < 0 {
		beyond = -beyond
	}
	if y != 0 || !isNearest(x, step, beyond) {
		t.Fatalf("RoundTenths(%d, %d) = %d, %v", x, step, y, ok)
	}
}

func TestRoundTenthsRejects(t *testing.T) {
	expect := func(x int, step int) {
		t.Helper()
		if y, ok := impl.RoundTenths(x, step); ok || y != 0 {
			t.Errorf("RoundTenths(%d, %d) = %d, %v", x, step, y, ok)
		}
	}
	badSteps := []int{0, -1, -10, -1000, 1001, 1002, 1 << 32, 1<<32 + 10, math.MaxInt, math.MaxInt - 1, math.MinInt, math.MinInt + 1}
	for _, step := range badSteps {
		for _, x := range append(noTenths(), 0, 1, -1, 25, 99999, -99999) {
			expect(x, step)
		}
	}
	for _, x := range noTenths() {
		for _, step := range []int{1, 2, 10, 999, 1000} {
			expect(x, step)
		}
	}
}

func TestWarmerThan(t *testing.T) {
	for _, c := range []struct {
		x, a, y, b int
		want       bool
	}{
		{0, 1, 320, 2, false}, {320, 2, 0, 1, false}, {1, 1, 320, 2, true}, {320, 2, 1, 1, false}, {-1, 1, 320, 2, false}, {320, 2, -1, 1, true},
		{-400, 1, -400, 2, false}, {-400, 2, -400, 1, false}, {1000, 1, 2120, 2, false}, {2120, 2, 1000, 1, false}, {-5, 1, 311, 2, false}, {311, 2, -5, 1, false},
		{321, 2, 0, 1, true}, {0, 1, 321, 2, false}, {321, 2, 1, 1, false}, {1, 1, 321, 2, true}, {319, 2, 0, 1, false}, {0, 1, 319, 2, true},
		{0, 1, 2731, 3, true}, {2731, 3, 0, 1, false}, {0, 1, 2732, 3, false}, {2732, 3, 0, 1, true}, {-2731, 1, 0, 3, true}, {-2732, 1, 0, 3, false},
		{0, 3, -2731, 1, false}, {0, 3, -2732, 1, true}, {1, 2, 2554, 3, true}, {2554, 3, 1, 2, false}, {1, 2, 2555, 3, false}, {2555, 3, 1, 2, true},
		{5, 2, 2556, 3, true}, {5, 2, 2557, 3, false}, {0, 3, -4596, 2, false}, {0, 3, -4597, 2, true}, {-4597, 2, 0, 3, false}, {-4596, 2, 0, 3, true},
		{99999, 1, 99999, 2, true}, {99999, 2, 99999, 1, false}, {-99999, 1, -99999, 2, false}, {-99999, 2, -99999, 1, true},
		{99999, 3, 99999, 2, true}, {-99999, 3, -99999, 1, false}, {-99999, 3, 99999, 2, false},
	} {
		if yes, ok := impl.WarmerThan(c.x, c.a, c.y, c.b); !ok || yes != c.want {
			t.Errorf("WarmerThan(%d, %d, %d, %d) = %v, %v", c.x, c.a, c.y, c.b, yes, ok)
		}
	}
}

// celsiusFraction is a temperature in tenths of C, as the document's table has it.
func celsiusFraction(x int, unit int) (int, int) {
	switch unit {
	case impl.UnitFahrenheit:
		return 5*x - 1600, 9
	case impl.UnitKelvin:
		return 2*x - 5463, 2
	}
	return x, 1
}

// checkOrder fails unless two temperatures are compared exactly, in both orders, and reports
// whether they are equal.
func checkOrder(t *testing.T, x int, a int, y int, b int) bool {
	t.Helper()
	numX, denX := celsiusFraction(x, a)
	numY, denY := celsiusFraction(y, b)
	left, right := numX*denY, numY*denX
	if yes, ok := impl.WarmerThan(x, a, y, b); !ok || yes != (left > right) {
		t.Fatalf("WarmerThan(%d, %d, %d, %d) = %v, %v", x, a, y, b, yes, ok)
	}
	if yes, ok := impl.WarmerThan(y, b, x, a); !ok || yes != (right > left) {
		t.Fatalf("WarmerThan(%d, %d, %d, %d) = %v, %v", y, b, x, a, yes, ok)
	}
	return left == right
}

func TestWarmerThanOfAllPairsOfUnits(t *testing.T) {
	equal := 0
	for a := impl.UnitCelsius; a <= impl.UnitKelvin; a++ {
		for b := impl.UnitCelsius; b <= impl.UnitKelvin; b++ {
			for x := -impl.MaxTenths; x <= impl.MaxTenths; x += 7 {
				exact, _ := tableFraction(x, a, b).Float64()
				near := int(math.Round(exact))
				for y := max(near-3, -impl.MaxTenths); y <= min(near+3, impl.MaxTenths); y++ {
					if checkOrder(t, x, a, y, b) && a != b {
						equal++
					}
				}
			}
		}
	}
	if equal == 0 {
		t.Error("no equal temperatures in two units")
	}
}

func TestWarmerThanRejects(t *testing.T) {
	expect := func(x int, a int, y int, b int) {
		t.Helper()
		if yes, ok := impl.WarmerThan(x, a, y, b); ok || yes {
			t.Errorf("WarmerThan(%d, %d, %d, %d) = %v, %v", x, a, y, b, yes, ok)
		}
	}
	others := noUnits()
	for _, u := range knownUnits() {
		if u.kind != "temperature" {
			others = append(others, u.unit)
		}
	}
	for unit := impl.UnitCelsius; unit <= impl.UnitKelvin; unit++ {
		for _, other := range others {
			for _, x := range []int{0, 1, -1, 99999, -99999} {
				expect(x, unit, -x, other)
				expect(x, other, -x, unit)
				expect(x, other, -x, other)
			}
		}
		for _, x := range noTenths() {
			for second := impl.UnitCelsius; second <= impl.UnitKelvin; second++ {
				for _, y := range []int{0, 99999, -99999, x, -x} {
					expect(x, unit, y, second)
					expect(y, unit, x, second)
				}
			}
		}
	}
}
