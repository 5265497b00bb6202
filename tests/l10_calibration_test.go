package tests

import (
	"math/big"
	"math/rand/v2"
	"slices"
	"strconv"
	"strings"
	"testing"

	"loop.example/g00889/impl"
)

// writtenPair reads "1/4".
func writtenPair(word string) (int, int) {
	first, second, _ := strings.Cut(word, "/")
	a, errA := strconv.Atoi(first)
	b, errB := strconv.Atoi(second)
	if errA != nil || errB != nil {
		panic("no pair: " + word)
	}
	return a, b
}

func emptyTally() impl.Tally { return impl.Tally{Cases: filled(11, 0), Hits: filled(11, 0)} }

// writtenTally reads the Hits and Cases of the classes from 0 on; a dot is a class without any,
// and so are the classes for which there is no word.
func writtenTally(s string) impl.Tally {
	tally := emptyTally()
	for class, word := range strings.Fields(s) {
		if word != "." {
			tally.Hits[class], tally.Cases[class] = writtenPair(word)
		}
	}
	return tally
}

func writtenShare(word string) impl.Share {
	num, den := writtenPair(word)
	return impl.Share{Num: num, Den: den}
}

func writtenShares(s string) []impl.Share {
	shares := []impl.Share{}
	for _, word := range strings.Fields(s) {
		shares = append(shares, writtenShare(word))
	}
	return shares
}

// classShares reads the shares of all classes; the last one is that of all classes behind it.
func classShares(s string) []impl.Share {
	shares := writtenShares(s)
	return slices.Concat(shares, slices.Repeat(shares[len(shares)-1:], 11-len(shares)))
}

func copyOf(tally impl.Tally) impl.Tally {
	return impl.Tally{Cases: slices.Clone(tally.Cases), Hits: slices.Clone(tally.Hits)}
}

func isTally(tally impl.Tally) bool {
	if len(tally.Cases) != 11 || len(tally.Hits) != 11 {
		return false
	}
	for class := range 11 {
		cases, hits := tally.Cases[class], tally.Hits[class]
		if cases < 0 || cases > 1000 || hits < 0 || hits > cases {
			return false
		}
	}
	return true
}

// reduced returns the Share that is a fraction of a numerator in 0..den and a positive den.
func reduced(num int, den int) impl.Share {
	for divisor := 2; divisor <= den; divisor++ {
		for num%divisor == 0 && den%divisor == 0 {
			num, den = num/divisor, den/divisor
		}
	}
	return impl.Share{Num: num, Den: den}
}

func plainIsShare(s impl.Share) bool {
	return s.Num >= 0 && s.Num <= s.Den && s.Den >= 1 && s.Den <= 1000000 && reduced(s.Num, s.Den) == s
}

func ratOf(s impl.Share) *big.Rat { return big.NewRat(int64(s.Num), int64(s.Den)) }

func sumOf(list []int) int {
	sum := 0
	for _, n := range list {
		sum += n
	}
	return sum
}

// withCases returns the classes that have Cases.
func withCases(tally impl.Tally) []int {
	classes := []int{}
	for class, cases := range tally.Cases {
		if cases > 0 {
			classes = append(classes, class)
		}
	}
	return classes
}

// plainShare is the share of a class with Cases: of all classes up to it the one is taken from
// which the least of the frequencies up to the class or a later one is greatest.
func plainShare(tally impl.Tally, class int) impl.Share {
	mostHits, mostCases := -1, 1
	for first := range class + 1 {
		leastHits, leastCases := 2, 1
		for end := class + 1; end <= 11; end++ {
			hits, cases := sumOf(tally.Hits[first:end]), sumOf(tally.Cases[first:end])
			if hits*leastCases < leastHits*cases {
				leastHits, leastCases = hits, cases
			}
		}
		if leastHits*mostCases > mostHits*leastCases {
			mostHits, mostCases = leastHits, leastCases
		}
	}
	return reduced(mostHits, mostCases)
}

// plainCalibration returns no shares for a tally without Cases.
func plainCalibration(tally impl.Tally) []impl.Share {
	classes, shares := withCases(tally), []impl.Share{}
	if len(classes) == 0 {
		return shares
	}
	for class := range 11 {
		from := classes[0]
		for _, other := range classes {
			if other <= class {
				from = other
			}
		}
		shares = append(shares, plainShare(tally, from))
	}
	return shares
}

func plainGroups(tally impl.Tally, shares []impl.Share) [][]int {
	groups := [][]int{}
	for i, class := range withCases(tally) {
		if i == 0 || shares[class] != shares[groups[len(groups)-1][0]] {
			groups = append(groups, nil)
		}
		groups[len(groups)-1] = append(groups[len(groups)-1], class)
	}
	return groups
}

// plainClassFor returns -1 if no class is large enough.
func plainClassFor(shares []impl.Share, share impl.Share) int {
	return slices.IndexFunc(shares, func(s impl.Share) bool { return s.Num*share.Den >= share.Num*s.Den })
}

func sameTally(a impl.Tally, b impl.Tally) bool {
	return slices.Equal(a.Cases, b.Cases) && slices.Equal(a.Hits, b.Hits)
}

func expectTally(t *testing.T, what string, got impl.Tally, ok bool, want impl.Tally) {
	t.Helper()
	if !ok || !sameTally(got, want) {
		t.Errorf("%s = %v, %v, not %v", what, got, ok, want)
	}
}

func expectNoTally(t *testing.T, what string, got impl.Tally, ok bool) {
	t.Helper()
	if ok || len(got.Cases) != 0 || len(got.Hits) != 0 {
		t.Errorf("%s = %v, %v", what, got, ok)
	}
}

func expectShare(t *testing.T, what string, got impl.Share, ok bool, want impl.Share) {
	t.Helper()
	if !ok || got != want {
		t.Errorf("%s = %v, %v, not %v", what, got, ok, want)
	}
}

func expectNoShare(t *testing.T, what string, got impl.Share, ok bool) {
	t.Helper()
	if ok || got != (impl.Share{}) {
		t.Errorf("%s = %v, %v", what, got, ok)
	}
}

func expectShares(t *testing.T, what string, got []impl.Share, ok bool, want []impl.Share) {
	t.Helper()
	if !ok || !slices.Equal(got, want) {
		t.Errorf("%s = %v, %v, not %v", what, got, ok, want)
	}
}

func expectNoShares(t *testing.T, what string, got []impl.Share, ok bool) {
	t.Helper()
	if ok || len(got) != 0 {
		t.Errorf("%s = %v, %v", what, got, ok)
	}
}

func expectOrder(t *testing.T, list []impl.Share, want bool) {
	t.Helper()
	monotone, ok := impl.IsMonotone(list)
	if !ok || monotone != want {
		t.Errorf("IsMonotone %v = %v, %v, not %v", list, monotone, ok, want)
	}
}

func expectNoOrder(t *testing.T, list []impl.Share) {
	t.Helper()
	if monotone, ok := impl.IsMonotone(list); ok || monotone {
		t.Errorf("IsMonotone %v = %v, %v", list, monotone, ok)
	}
}

// expectClass takes -1 for a share for which there is no class.
func expectClass(t *testing.T, tally impl.Tally, share impl.Share, want int) {
	t.Helper()
	class, ok := impl.ClassFor(tally, share)
	if want < 0 && (ok || class != 0) || want >= 0 && (!ok || class != want) {
		t.Errorf("ClassFor %v of %v = %d, %v, not %d", share, tally, class, ok, want)
	}
}

// expectInvalid fails unless every function of chapter 10 rejects a tally.
func expectInvalid(t *testing.T, what string, tally impl.Tally) {
	t.Helper()
	if impl.IsValidTally(tally) {
		t.Errorf("a tally: %s", what)
	}
	for class := -1; class <= 11; class++ {
		for _, hit := range []bool{false, true} {
			sum, ok := impl.AddCase(tally, class, hit)
			expectNoTally(t, "AddCase of "+what, sum, ok)
		}
		share, ok := impl.FrequencyOf(tally, class)
		expectNoShare(t, "FrequencyOf of "+what, share, ok)
	}
	for _, pair := range [][2]impl.Tally{{tally, emptyTally()}, {emptyTally(), tally}, {tally, writtenTally("1/2 0/1")}, {writtenTally("1/2 0/1"), tally}, {tally, tally}} {
		sum, ok := impl.AddTallies(pair[0], pair[1])
		expectNoTally(t, "AddTallies of "+what, sum, ok)
	}
	shares, ok := impl.CalibrationOf(tally)
	expectNoShares(t, "CalibrationOf of "+what, shares, ok)
	if groups, ok := impl.GroupsOf(tally); ok || len(groups) != 0 {
		t.Errorf("GroupsOf of %s = %v, %v", what, groups, ok)
	}
	for _, share := range someShares() {
		expectClass(t, tally, share, -1)
	}
}

// someShares are in ascending order.
func someShares() []impl.Share {
	return writtenShares("0/1 1/1000000 1/8 1/7 1/6 1/5 1/4 2/7 1/3 3/8 2/5 3/7 1/2 4/7 3/5 5/8 2/3 5/7 3/4 4/5 5/6 6/7 7/8 999999/1000000 1/1")
}

// checkTally holds every function of chapter 10 against the tests' own for a valid tally.
func checkTally(t *testing.T, tally impl.Tally) {
	t.Helper()
	if !impl.IsValidTally(tally) {
		t.Fatalf("no tally: %v", tally)
	}
	checkSums(t, tally)
	for class := range 11 {
		got, ok := impl.FrequencyOf(tally, class)
		what := "FrequencyOf " + strconv.Itoa(class)
		if tally.Cases[class] == 0 {
			expectNoShare(t, what, got, ok)
		} else {
			expectShare(t, what, got, ok, reduced(tally.Hits[class], tally.Cases[class]))
		}
	}
	shares := checkCalibration(t, tally)
	for _, share := range slices.Concat(someShares(), shares) {
		expectClass(t, tally, share, plainClassFor(shares, share))
	}
}

// checkSums adds a case of every class and the tally itself.
func checkSums(t *testing.T, tally impl.Tally) {
	t.Helper()
	for class := range 11 {
		for _, hit := range []bool{false, true} {
			want := copyOf(tally)
			want.Cases[class]++
			want.Hits[class] += either(hit, 1, 0)
			got, ok := impl.AddCase(tally, class, hit)
			expectSum(t, "AddCase "+strconv.Itoa(class), got, ok, want)
		}
	}
	twice, more := copyOf(tally), copyOf(tally)
	for class := range 11 {
		twice.Cases[class] *= 2
		twice.Hits[class] *= 2
		more.Cases[class] += class
		more.Hits[class] += class / 2
	}
	got, ok := impl.AddTallies(tally, tally)
	expectSum(t, "AddTallies of the same", got, ok, twice)
	rising := impl.Tally{Cases: []int{0, 1, 2, 3, 4, 5, 6, 7, 8, 9, 10}, Hits: []int{0, 0, 1, 1, 2, 2, 3, 3, 4, 4, 5}}
	got, ok = impl.AddTallies(tally, rising)
	expectSum(t, "AddTallies", got, ok, more)
	got, ok = impl.AddTallies(rising, tally)
	expectSum(t, "AddTallies the other way round", got, ok, more)
}

// expectSum takes a sum that may be too great to be a tally.
func expectSum(t *testing.T, what string, got impl.Tally, ok bool, want impl.Tally) {
	t.Helper()
	if isTally(want) {
		expectTally(t, what, got, ok, want)
	} else {
		expectNoTally(t, what, got, ok)
	}
}

// checkCalibration returns the shares of all classes, or none for a tally without Cases.
func checkCalibration(t *testing.T, tally impl.Tally) []impl.Share {
	t.Helper()
	want := plainCalibration(tally)
	shares, ok := impl.CalibrationOf(tally)
	if len(want) == 0 {
		expectNoShares(t, "CalibrationOf", shares, ok)
	} else {
		expectShares(t, "CalibrationOf", shares, ok, want)
		expectOrder(t, shares, true)
	}
	groups, ok := impl.GroupsOf(tally)
	expectLists(t, "GroupsOf", groups, ok, plainGroups(tally, want))
	return want
}

func TestLimitsOfCalibrations(t *testing.T) {
	if impl.MaxClass != 10 || impl.MaxCases != 1000 || impl.MaxDen != 1000000 {
		t.Error("limits", impl.MaxClass, impl.MaxCases, impl.MaxDen)
	}
}

// writtenCalibration is a tally with the shares and the groups that it has.
type writtenCalibration struct {
	tally  string
	shares string
	groups [][]int
}

// allTogether is a group of all classes.
func allTogether() [][]int { return [][]int{{0, 1, 2, 3, 4, 5, 6, 7, 8, 9, 10}} }

func allApart() [][]int { return [][]int{{0}, {1}, {2}, {3}, {4}, {5}, {6}, {7}, {8}, {9}, {10}} }

// someCalibrations are worked out by hand.
func someCalibrations() []writtenCalibration {
	const last = ". . . . . . . . . . "
	return []writtenCalibration{
		// one class
		{"1/2", "1/2", [][]int{{0}}}, {"0/5", "0/1", [][]int{{0}}}, {"5/5", "1/1", [][]int{{0}}}, {". . . 6/9", "2/3", [][]int{{3}}},
		{last + "3/12", "1/4", [][]int{{10}}}, {last + "0/1", "0/1", [][]int{{10}}}, {last + "1/1", "1/1", [][]int{{10}}},
		// rising
		{"0/2 1/4 2/4 3/4 4/4", "0/1 1/4 1/2 3/4 1/1", [][]int{{0}, {1}, {2}, {3}, {4}}},
		{"0/10 1/10 2/10 3/10 4/10 5/10 6/10 7/10 8/10 9/10 10/10", "0/1 1/10 1/5 3/10 2/5 1/2 3/5 7/10 4/5 9/10 1/1", allApart()},
		{"0/1 998/1000 999/1000", "0/1 499/500 999/1000", [][]int{{0}, {1}, {2}}}, {"997/998 998/999", "997/998 998/999", [][]int{{0}, {1}}},
		// falling throughout
		{"10/10 9/10 8/10 7/10 6/10 5/10 4/10 3/10 2/10 1/10 0/10", "1/2", allTogether()}, {"3/3 1/2 0/5", "2/5", [][]int{{0, 1, 2}}},
		{"1/1 9/100", "10/101", [][]int{{0, 1}}}, {"1000/1000 0/1", "1000/1001", [][]int{{0, 1}}}, {"998/999 997/998", "1995/1997", [][]int{{0, 1}}},
		// one fall: at the beginning, in the middle, at the end
		{"3/4 1/4 3/5 4/5", "1/2 1/2 3/5 4/5", [][]int{{0, 1}, {2}, {3}}}, {"0/4 3/4 2/4 4/4", "0/1 5/8 5/8 1/1", [][]int{{0}, {1, 2}, {3}}},
		{"1/4 2/4 4/4 3/4", "1/4 1/2 7/8", [][]int{{0}, {1}, {2, 3}}},
		// two falls apart and one after the other
		{"2/4 0/4 3/4 1/4 4/4 2/4", "1/4 1/4 1/2 1/2 3/4", [][]int{{0, 1}, {2, 3}, {4, 5}}}, {"0/4 4/4 2/4 1/4 4/4", "0/1 7/12 7/12 7/12 1/1", [][]int{{0}, {1, 2, 3}, {4}}},
		// equal frequencies that are never joined, and that of a group that was joined
		{"1/2 2/4 3/6", "1/2", [][]int{{0, 1, 2}}}, {"0/1 0/7 0/3", "0/1", [][]int{{0, 1, 2}}}, {"0/1 2/2 3/3", "0/1 1/1", [][]int{{0}, {1, 2}}},
		{"1/4 2/4 0/4", "1/4", [][]int{{0, 1, 2}}}, {"2/4 0/4 1/4", "1/4", [][]int{{0, 1, 2}}}, {"2/4 0/4 3/4 . 1/4 4/8", "1/4 1/4 1/2", [][]int{{0, 1}, {2, 4, 5}}},
		{"1/4 2/4 0/4 3/8", "1/4 1/4 1/4 3/8", [][]int{{0, 1, 2}, {3}}},
		// falls that are there only after groups were joined
		{"1/2 2/4 0/4", "3/10", [][]int{{0, 1, 2}}}, {"2/4 3/4 0/4", "5/12", [][]int{{0, 1, 2}}}, {"1/10 4/10 5/10 6/10 0/10", "1/10 3/8", [][]int{{0}, {1, 2, 3, 4}}},
		{"1/10 2/10 3/10 4/10 5/10 6/10 7/10 8/10 9/10 10/10 0/10", "1/10 1/5 3/10 2/5 1/2 3/5 17/25", [][]int{{0}, {1}, {2}, {3}, {4}, {5}, {6, 7, 8, 9, 10}}},
		{"1/10 2/10 3/10 4/10 5/10 6/10 7/10 8/10 9/10 10/10 0/1000", "1/20", allTogether()}, {"1000/1000 0/1 1/1 0/1 1/1", "1001/1003 1001/1003 1001/1003 1001/1003 1/1", [][]int{{0, 1, 2, 3}, {4}}},
		// classes without Cases: below, between and above the others, and within a group
		{". . 1/4 . . 3/4 . .", "1/4 1/4 1/4 1/4 1/4 3/4", [][]int{{2}, {5}}}, {"3/4 . 1/4", "1/2", [][]int{{0, 2}}}, {"0/9 . . 1/4 . 1/2", "0/1 0/1 0/1 1/4 1/4 1/2", [][]int{{0}, {3}, {5}}},
		{". 4/4 . . 2/4 . 3/4 . . 1/1", "3/4 3/4 3/4 3/4 3/4 3/4 3/4 3/4 3/4 1/1", [][]int{{1, 4, 6}, {9}}}, {"1/4" + last[1:] + "3/4", "1/4 1/4 1/4 1/4 1/4 1/4 1/4 1/4 1/4 1/4 3/4", [][]int{{0}, {10}}},
		{"3/4" + last[1:] + "1/4", "1/2", [][]int{{0, 10}}}, {"1/2" + last[1:] + "2/4", "1/2", [][]int{{0, 10}}}, {". . . . . . . . . 0/3 2/3", "0/1 0/1 0/1 0/1 0/1 0/1 0/1 0/1 0/1 0/1 2/3", [][]int{{9}, {10}}},
		// the greatest numbers
		{strings.Repeat("1000/1000 ", 11), "1/1", allTogether()}, {strings.Repeat("0/1000 ", 11), "0/1", allTogether()}, {strings.Repeat("1000/1000 ", 10) + "999/1000", "10999/11000", allTogether()},
		{"1/1000 " + strings.Repeat("0/1000 ", 10), "1/11000", allTogether()},
	}
}

func TestCalibrationsByHand(t *testing.T) {
	for _, c := range someCalibrations() {
		tally := writtenTally(c.tally)
		checkTally(t, tally)
		shares, ok := impl.CalibrationOf(tally)
		expectShares(t, "CalibrationOf "+c.tally, shares, ok, classShares(c.shares))
		groups, ok := impl.GroupsOf(tally)
		expectLists(t, "GroupsOf "+c.tally, groups, ok, c.groups)
	}
}

func TestTallyWithoutCases(t *testing.T) {
	empty := emptyTally()
	checkTally(t, empty)
	shares, ok := impl.CalibrationOf(empty)
	expectNoShares(t, "CalibrationOf", shares, ok)
	groups, ok := impl.GroupsOf(empty)
	expectLists(t, "GroupsOf", groups, ok, nil)
	for _, share := range slices.Concat(someShares(), noShares()) {
		expectClass(t, empty, share, -1)
	}
	sum, ok := impl.AddTallies(empty, empty)
	expectTally(t, "AddTallies", sum, ok, empty)
	for class := range 11 {
		share, ok := impl.FrequencyOf(empty, class)
		expectNoShare(t, "FrequencyOf", share, ok)
		sum, ok := impl.AddCase(empty, class, true)
		want := emptyTally()
		want.Cases[class], want.Hits[class] = 1, 1
		expectTally(t, "AddCase", sum, ok, want)
	}
}

func TestNumbersOfClasses(t *testing.T) {
	for cases := range 270 {
		for _, hits := range []int{0, 1, 9, 10, 11, 12, 13, 22, cases} {
			tally := impl.Tally{Cases: filled(cases, 3), Hits: filled(hits, 1)}
			if cases == 11 && hits == 11 {
				checkTally(t, tally)
			} else {
				expectInvalid(t, strconv.Itoa(cases)+" and "+strconv.Itoa(hits)+" elements", tally)
			}
		}
	}
	expectInvalid(t, "no Hits", impl.Tally{Cases: filled(11, 0)})
	expectInvalid(t, "no Cases", impl.Tally{Hits: filled(11, 0)})
	expectInvalid(t, "no lists", impl.Tally{})
}

func TestCasesAndHitsOutOfRange(t *testing.T) {
	numbers := append(farNumbers(), -1000, -2, -1, 0, 1, 2, 255, 256, 257, 998, 999, 1000, 1001, 1002, 2000)
	for _, cases := range numbers {
		for _, hits := range slices.Concat(numbers, []int{cases - 1, cases, cases + 1, -cases}) {
			for _, class := range []int{0, 1, 5, 9, 10} {
				for _, tally := range []impl.Tally{emptyTally(), writtenTally(strings.Repeat("1/3 ", 11))} {
					tally.Cases[class], tally.Hits[class] = cases, hits
					if isTally(tally) != impl.IsValidTally(tally) {
						t.Errorf("IsValidTally of %v = %v", tally, impl.IsValidTally(tally))
					}
					if isTally(tally) {
						checkTally(t, tally)
					}
				}
			}
		}
	}
	for class := range 11 {
		for _, pair := range [][2]int{{-1, 0}, {-1, -1}, {0, -1}, {0, 1}, {1, -1}, {1, 2}, {1000, 1001}, {1000, -1}, {1001, 0}, {1001, 1000}, {1001, 1001}, {1 << 32, 0}, {1<<32 + 1, 1}} {
			tally := writtenTally(strings.Repeat("1/3 ", 11))
			tally.Cases[class], tally.Hits[class] = pair[0], pair[1]
			expectInvalid(t, strconv.Itoa(pair[1])+" of "+strconv.Itoa(pair[0])+" in class "+strconv.Itoa(class), tally)
		}
	}
}

func TestClassesOutOfRange(t *testing.T) {
	tallies := []impl.Tally{emptyTally(), writtenTally(strings.Repeat("1/3 ", 11)), writtenTally("1000/1000"), {}}
	for _, tally := range tallies {
		for _, class := range append(farNumbers(), -11, -2, -1, 11, 12, 22, 256, 266) {
			for _, hit := range []bool{false, true} {
				sum, ok := impl.AddCase(tally, class, hit)
				expectNoTally(t, "AddCase "+strconv.Itoa(class), sum, ok)
			}
			share, ok := impl.FrequencyOf(tally, class)
			expectNoShare(t, "FrequencyOf "+strconv.Itoa(class), share, ok)
		}
	}
}

func TestAddCaseAtTheLimit(t *testing.T) {
	for class := range 11 {
		for _, c := range []struct{ cases, hits int }{{0, 0}, {1, 0}, {1, 1}, {998, 3}, {999, 0}, {999, 998}, {999, 999}, {1000, 0}, {1000, 999}, {1000, 1000}} {
			for _, hit := range []bool{false, true} {
				tally := writtenTally(strings.Repeat("1000/1000 ", 11))
				tally.Cases[class], tally.Hits[class] = c.cases, c.hits
				sum, ok := impl.AddCase(tally, class, hit)
				what := "AddCase to " + strconv.Itoa(c.hits) + " of " + strconv.Itoa(c.cases)
				if c.cases == 1000 {
					expectNoTally(t, what, sum, ok)
					continue
				}
				tally.Cases[class]++
				if hit {
					tally.Hits[class]++
				}
				expectTally(t, what, sum, ok, tally)
			}
		}
	}
}

func TestCasesAreCountedOneByOne(t *testing.T) {
	random := rand.New(rand.NewPCG(10, 1))
	tally, want := emptyTally(), emptyTally()
	for range 3000 {
		class, hit := random.IntN(11), random.IntN(3) == 0
		next, ok := impl.AddCase(tally, class, hit)
		want.Cases[class]++
		want.Hits[class] += either(hit, 1, 0)
		expectTally(t, "AddCase", next, ok, want)
		tally = next
	}
	checkTally(t, tally)
}

func TestAddTalliesAtTheLimit(t *testing.T) {
	for class := range 11 {
		for _, c := range []struct {
			a, b string
			want string
		}{
			{"0/999", "0/1", "0/1000"}, {"0/1", "0/999", "0/1000"}, {"0/999", "0/2", ""}, {"0/2", "0/999", ""}, {"999/999", "1/1", "1000/1000"}, {"500/500", "500/500", "1000/1000"},
			{"500/500", "501/501", ""}, {"1000/1000", "1/1", ""}, {"0/1", "1000/1000", ""}, {"1000/1000", "1000/1000", ""}, {"1000/1000", "0/0", "1000/1000"}, {"0/0", "1000/1000", "1000/1000"},
			{"3/7", "2/2", "5/9"}, {"0/400", "600/600", "600/1000"}, {"0/1000", "0/1000", ""}, {"0/0", "0/0", "0/0"},
		} {
			before := strings.Repeat("2/5 ", class)
			sum, ok := impl.AddTallies(writtenTally(before+c.a), writtenTally(before+c.b))
			what := "AddTallies of " + c.a + " and " + c.b
			if c.want == "" {
				expectNoTally(t, what, sum, ok)
			} else {
				expectTally(t, what, sum, ok, writtenTally(strings.Repeat("4/10 ", class)+c.want))
			}
		}
	}
}

func TestFrequencies(t *testing.T) {
	for _, c := range []struct{ pair, want string }{
		{"0/1", "0/1"}, {"0/2", "0/1"}, {"0/1000", "0/1"}, {"1/1", "1/1"}, {"2/2", "1/1"}, {"1000/1000", "1/1"}, {"1/2", "1/2"}, {"2/4", "1/2"}, {"4/6", "2/3"}, {"6/9", "2/3"},
		{"35/49", "5/7"}, {"36/48", "3/4"}, {"500/1000", "1/2"}, {"999/1000", "999/1000"}, {"1/1000", "1/1000"}, {"996/997", "996/997"}, {"720/960", "3/4"}, {"17/289", "1/17"}, {"512/768", "2/3"},
	} {
		for class := range 11 {
			share, ok := impl.FrequencyOf(writtenTally(strings.Repeat("1/2 ", class)+c.pair), class)
			expectShare(t, "FrequencyOf "+c.pair, share, ok, writtenShare(c.want))
		}
	}
	for _, cases := range []int{1, 2, 3, 6, 12, 30, 64, 97, 100, 210, 243, 720, 840, 997, 999, 1000} {
		for hits := range cases + 1 {
			tally := emptyTally()
			tally.Cases[4], tally.Hits[4] = cases, hits
			share, ok := impl.FrequencyOf(tally, 4)
			rat := big.NewRat(int64(hits), int64(cases))
			expectShare(t, "FrequencyOf", share, ok, impl.Share{Num: int(rat.Num().Int64()), Den: int(rat.Denom().Int64())})
		}
	}
}

// noShares are fractions that are no Share.
func noShares() []impl.Share {
	list := writtenShares("-1/1 2/1 0/0 1/0 -1/0 -1/-1 0/-1 1/-1 1/-2 -2/-1 2/4 3/6 0/2 0/3 2/2 0/1000000 1000000/1000000 500000/1000000 999998/1000000 6/999999 " +
		"1/1000001 0/1000001 1000000/1000001 1000001/1000001 1000001/1000000 1000003/1000000 1000001/1 0/1000002 -1/1000000 -1000000/-1000000 -1/2 3/2 4/3 5/1 1/1000003 999983/1999993")
	for _, far := range farNumbers() {
		if far >= 0 && far <= 1000000 {
			continue
		}
		list = append(list, impl.Share{Num: far, Den: far}, impl.Share{Num: far, Den: far + 1}, impl.Share{Num: far, Den: 0})
		for _, near := range []int{0, 1, 2, 3, 999999, 1000000} {
			list = append(list, impl.Share{Num: near, Den: far}, impl.Share{Num: far, Den: near})
		}
	}
	return list
}

func TestNoShares(t *testing.T) {
	half := impl.Share{Num: 1, Den: 2}
	for _, bad := range noShares() {
		for _, size := range []int{1, 2, 3, 20} {
			for at := range size {
				list := slices.Repeat([]impl.Share{half}, size)
				list[at] = bad
				expectNoOrder(t, list)
			}
		}
		expectNoOrder(t, []impl.Share{{Num: 1, Den: 1}, half, bad})
		expectNoOrder(t, []impl.Share{bad, {Num: 1, Den: 1}, half})
		for _, tally := range []string{"", "0/1", "1/1", "1/2", "1/4 . 3/4", strings.Repeat("1000/1000 ", 11)} {
			expectClass(t, writtenTally(tally), bad, -1)
		}
	}
}

func TestFractionsThatAreShares(t *testing.T) {
	tally := writtenTally("1/1")
	for num := -3; num <= 40; num++ {
		for den := -3; den <= 40; den++ {
			s := impl.Share{Num: num, Den: den}
			if plainIsShare(s) {
				expectOrder(t, []impl.Share{s}, true)
				expectClass(t, tally, s, 0)
			} else {
				expectNoOrder(t, []impl.Share{s})
				expectClass(t, tally, s, -1)
			}
		}
	}
	for _, s := range writtenShares("0/1 1/1 1/1000000 999999/1000000 1/999999 999998/999999 999983/1000000 1/999983 65537/1000000") {
		expectOrder(t, []impl.Share{s}, true)
		expectClass(t, tally, s, 0)
	}
}

func TestListsOfShares(t *testing.T) {
	expectOrder(t, nil, true)
	expectOrder(t, []impl.Share{}, true)
	for size := 1; size <= 300; size++ {
		equal, rising, falling := []impl.Share{}, []impl.Share{}, []impl.Share{}
		for i := range size {
			equal = append(equal, impl.Share{Num: 2, Den: 3})
			rising = append(rising, reduced(i, 300))
			falling = append(falling, reduced(300-i, 300))
		}
		if size > 20 {
			expectNoOrder(t, equal)
			expectNoOrder(t, rising)
			expectNoOrder(t, falling)
			continue
		}
		expectOrder(t, equal, true)
		expectOrder(t, rising, true)
		expectOrder(t, falling, size == 1)
		for at := 1; at < size; at++ {
			list := slices.Clone(rising)
			list[at-1] = list[at]
			expectOrder(t, list, true)
			list = slices.Clone(rising)
			list[at-1], list[at] = list[at], list[at-1]
			expectOrder(t, list, false)
			list = slices.Clone(equal)
			list[at] = impl.Share{Num: 665, Den: 998}
			expectOrder(t, list, false)
			list[at] = impl.Share{Num: 1, Den: 1}
			expectOrder(t, list, at == size-1)
			list[at] = impl.Share{Num: 0, Den: 1}
			expectOrder(t, list, false)
		}
	}
}

func TestSharesCloseToEachOther(t *testing.T) {
	list := writtenShares("0/1 1/1000000 1/999999 1/999998 333333/1000000 333332/999997 1/3 333334/999999 " +
		"333334/999997 499999/1000000 499999/999999 1/2 500000/999999 500001/1000000 999997/999998 999998/999999 999999/1000000 1/1")
	for _, p := range list {
		for _, q := range list {
			expectOrder(t, []impl.Share{p, q}, ratOf(p).Cmp(ratOf(q)) <= 0)
		}
	}
}

func TestEveryShortListOfShares(t *testing.T) {
	elements := writtenShares("0/1 1/4 1/3 1/2 2/3 3/4 1/1 0/2 2/4 5/4")
	places := []int{0, 1, 2, 3, 4, 5, 6, 7, 8, 9}
	for size := range 5 {
		listsOver(places, size, func(numbers []int) {
			list := []impl.Share{}
			for _, n := range numbers {
				list = append(list, elements[n])
			}
			if slices.ContainsFunc(numbers, func(n int) bool { return n >= 7 }) {
				expectNoOrder(t, list)
			} else {
				expectOrder(t, list, slices.IsSorted(numbers))
			}
		})
	}
}

func TestClassFor(t *testing.T) {
	for _, c := range []struct {
		tally, share string
		want         int
	}{
		{"1/4 . 2/2 . 1/5 . . . . . 9/10", "0/1", 0}, {"1/4 . 2/2 . 1/5 . . . . . 9/10", "1/5", 0}, {"1/4 . 2/2 . 1/5 . . . . . 9/10", "1/4", 0},
		{"1/4 . 2/2 . 1/5 . . . . . 9/10", "250001/1000000", 2}, {"1/4 . 2/2 . 1/5 . . . . . 9/10", "428571/1000000", 2}, {"1/4 . 2/2 . 1/5 . . . . . 9/10", "3/7", 2},
		{"1/4 . 2/2 . 1/5 . . . . . 9/10", "428573/1000000", 10}, {"1/4 . 2/2 . 1/5 . . . . . 9/10", "1/2", 10}, {"1/4 . 2/2 . 1/5 . . . . . 9/10", "9/10", 10},
		{"1/4 . 2/2 . 1/5 . . . . . 9/10", "900001/1000000", -1}, {"1/4 . 2/2 . 1/5 . . . . . 9/10", "1/1", -1},
		{". . 1/4 . 3/4", "0/1", 0}, {". . 1/4 . 3/4", "1/4", 0}, {". . 1/4 . 3/4", "1/3", 4}, {". . 1/4 . 3/4", "3/4", 4}, {". . 1/4 . 3/4", "4/5", -1},
		{". . . . . . . . . . 1/1", "1/1", 0}, {". . . . . . . . . . 0/1", "0/1", 0}, {". . . . . . . . . . 0/1", "1/1000000", -1}, {"0/3", "0/1", 0}, {"0/3", "1/1000000", -1},
		{"1/1", "1/1", 0}, {"0/1 1/1", "1/1000000", 1}, {"0/1 1/1", "1/1", 1}, {"0/1 . . 1/1", "1/2", 3}, {"3/4 1/4 5/8", "1/2", 0}, {"3/4 1/4 5/8", "3/5", 2}, {"3/4 1/4 5/8", "3/4", -1},
		{"997/998 998/999 999/1000", "997/998", 0}, {"997/998 998/999 999/1000", "998/999", 1}, {"997/998 998/999 999/1000", "999/1000", 2}, {"997/998 998/999 999/1000", "999999/1000000", -1},
		{"", "0/1", -1}, {"", "1/1", -1},
	} {
		expectClass(t, writtenTally(c.tally), writtenShare(c.share), c.want)
	}
}

func TestClassesBesideEveryShare(t *testing.T) {
	tally := writtenTally("0/10 1/10 2/10 3/10 4/10 5/10 6/10 7/10 8/10 9/10 10/10")
	for class := range 11 {
		expectClass(t, tally, reduced(class, 10), class)
		if class > 0 {
			expectClass(t, tally, reduced(class*100000-1, 1000000), class)
			expectClass(t, tally, reduced((class-1)*100000+1, 1000000), class)
		}
	}
}

// everyPair returns all Hits and Cases up to a number of Cases.
func everyPair(most int) [][2]int {
	pairs := [][2]int{}
	for cases := range most + 1 {
		for hits := range cases + 1 {
			pairs = append(pairs, [2]int{hits, cases})
		}
	}
	return pairs
}

// everyTally calls a function with all tallies of up to most Cases in some classes.
func everyTally(classes []int, most int, call func(tally impl.Tally)) {
	pairs, places := everyPair(most), []int{}
	for i := range pairs {
		places = append(places, i)
	}
	listsOver(places, len(classes), func(list []int) {
		tally := emptyTally()
		for i, class := range classes {
			tally.Hits[class], tally.Cases[class] = pairs[list[i]][0], pairs[list[i]][1]
		}
		call(tally)
	})
}

func TestEveryTallyOfFewClasses(t *testing.T) {
	for _, classes := range [][]int{{0, 1, 2}, {0, 5, 10}, {8, 9, 10}, {3, 4, 7}} {
		everyTally(classes, 3, func(tally impl.Tally) { checkTally(t, tally) })
	}
	everyTally([]int{0, 10}, 9, func(tally impl.Tally) { checkTally(t, tally) })
	everyTally([]int{1, 2}, 9, func(tally impl.Tally) { checkTally(t, tally) })
	everyTally([]int{0, 1, 2, 3}, 3, func(tally impl.Tally) { checkCalibration(t, tally) })
	everyTally([]int{1, 3, 4, 8, 10}, 2, func(tally impl.Tally) { checkCalibration(t, tally) })
}

func TestEveryTallyOfAllClassesWithOneCase(t *testing.T) {
	everyTally([]int{0, 1, 2, 3, 4, 5, 6, 7, 8, 9, 10}, 1, func(tally impl.Tally) { checkCalibration(t, tally) })
}

// someTally has Cases in about share of 100 classes.
func someTally(random *rand.Rand, most int, share int) impl.Tally {
	tally := emptyTally()
	for class := range 11 {
		if random.IntN(100) < share {
			tally.Cases[class] = random.IntN(most) + 1
			tally.Hits[class] = random.IntN(tally.Cases[class] + 1)
		}
	}
	return tally
}

// risingTally has frequencies that are near to those of forecasts.
func risingTally(random *rand.Rand, most int) impl.Tally {
	tally := emptyTally()
	for class := range 11 {
		tally.Cases[class] = random.IntN(most + 1)
		for range tally.Cases[class] {
			tally.Hits[class] += either(random.IntN(10) < class, 1, 0)
		}
	}
	return tally
}

func TestManyTallies(t *testing.T) {
	random := rand.New(rand.NewPCG(10, 2))
	for i := range 3000 {
		most := []int{1, 3, 10, 100, 1000}[i%5]
		checkTally(t, someTally(random, most, random.IntN(101)))
		checkTally(t, risingTally(random, most))
	}
}

// sumOfSquares is that of Cases * (share - Hits / Cases)^2 for shares of the classes with Cases.
func sumOfSquares(tally impl.Tally, shares []*big.Rat) *big.Rat {
	sum := new(big.Rat)
	for i, class := range withCases(tally) {
		cases := big.NewRat(int64(tally.Cases[class]), 1)
		gap := new(big.Rat).Sub(shares[i], big.NewRat(int64(tally.Hits[class]), int64(tally.Cases[class])))
		sum.Add(sum, gap.Mul(gap, gap).Mul(gap, cases))
	}
	return sum
}

// sharesOfBlocks gives neighboring classes with Cases one share, the frequency of all of them;
// the bits of cuts say between which ones a new block begins. It is false if shares decrease.
func sharesOfBlocks(tally impl.Tally, cuts int) ([]*big.Rat, bool) {
	classes, shares, first := withCases(tally), []*big.Rat{}, 0
	for i := range classes {
		if i+1 < len(classes) && cuts>>i&1 == 0 {
			continue
		}
		hits, cases := 0, 0
		for _, class := range classes[first : i+1] {
			hits += tally.Hits[class]
			cases += tally.Cases[class]
		}
		mean := big.NewRat(int64(hits), int64(cases))
		if first > 0 && mean.Cmp(shares[first-1]) < 0 {
			return nil, false
		}
		shares = append(shares, slices.Repeat([]*big.Rat{mean}, i+1-first)...)
		first = i + 1
	}
	return shares, true
}

// checkLeast holds that the calibration has the smallest sum of squares, and that only the same
// shares have the same sum; others are lists of shares of the classes with Cases.
func checkLeast(t *testing.T, tally impl.Tally, others [][]*big.Rat) {
	t.Helper()
	calibrated, ok := impl.CalibrationOf(tally)
	if !ok {
		t.Fatalf("CalibrationOf %v fails", tally)
	}
	shares := []*big.Rat{}
	for _, class := range withCases(tally) {
		shares = append(shares, ratOf(calibrated[class]))
	}
	least := sumOfSquares(tally, shares)
	for cuts := range 1 << (len(shares) - 1) {
		if blocks, ok := sharesOfBlocks(tally, cuts); ok {
			others = append(others, blocks)
		}
	}
	for _, other := range others {
		same := slices.EqualFunc(shares, other, func(p *big.Rat, q *big.Rat) bool { return p.Cmp(q) == 0 })
		if order := least.Cmp(sumOfSquares(tally, other)); order > 0 || order == 0 && !same {
			t.Errorf("the sum of squares of %v is not smaller than that of %v for %v", shares, other, tally)
		}
	}
}

// risingLists returns all lists of a size, of fractions of small numbers, that do not decrease.
func risingLists(size int) [][]*big.Rat {
	fractions := writtenShares("0/1 1/4 1/3 1/2 2/3 3/4 1/1")
	lists := [][]*big.Rat{}
	listsOver([]int{0, 1, 2, 3, 4, 5, 6}, size, func(numbers []int) {
		if slices.IsSorted(numbers) {
			list := []*big.Rat{}
			for _, n := range numbers {
				list = append(list, ratOf(fractions[n]))
			}
			lists = append(lists, list)
		}
	})
	return lists
}

func TestSumOfSquaresIsSmallest(t *testing.T) {
	lists := [][][]*big.Rat{nil, risingLists(1), risingLists(2), risingLists(3), risingLists(4)}
	everyTally([]int{2, 3, 6}, 3, func(tally impl.Tally) {
		if n := len(withCases(tally)); n > 0 {
			checkLeast(t, tally, slices.Clip(lists[n]))
		}
	})
	random := rand.New(rand.NewPCG(10, 3))
	for range 100 {
		tally := someTally(random, 9, 35)
		if n := len(withCases(tally)); n > 0 {
			checkLeast(t, tally, slices.Clip(lists[either(n <= 4, n, 0)]))
		}
	}
	for range 20 {
		checkLeast(t, risingTally(random, 9), nil)
		checkLeast(t, someTally(random, 1000, 100), nil)
	}
}

func TestCalibratedSharesDoNotDecrease(t *testing.T) {
	random := rand.New(rand.NewPCG(10, 4))
	for i := range 20000 {
		tally := someTally(random, []int{1, 2, 7, 60, 1000}[i%5], i%100+1)
		tally.Cases[i%11] = max(tally.Cases[i%11], 1)
		shares, ok := impl.CalibrationOf(tally)
		if !ok || len(shares) != 11 {
			t.Fatalf("CalibrationOf %v = %v, %v", tally, shares, ok)
		}
		for class, share := range shares {
			if ratOf(share).Denom().Int64() != int64(share.Den) || share.Num < 0 || share.Num > share.Den || share.Den > 11000 {
				t.Errorf("no Share: %v of %v", share, tally)
			}
			if class > 0 && ratOf(share).Cmp(ratOf(shares[class-1])) < 0 {
				t.Errorf("the shares decrease: %v of %v", shares, tally)
			}
		}
		expectOrder(t, shares, true)
	}
}

func TestCalibrationKeepsHits(t *testing.T) {
	random := rand.New(rand.NewPCG(10, 5))
	for range 2000 {
		tally := someTally(random, 50, 80)
		shares, _ := impl.CalibrationOf(tally)
		groups, _ := impl.GroupsOf(tally)
		if all := slices.Concat(groups...); !slices.Equal(all, withCases(tally)) {
			t.Errorf("the groups %v are not the classes with Cases of %v", groups, tally)
		}
		for i, group := range groups {
			hits, cases := 0, 0
			for _, class := range group {
				hits += tally.Hits[class]
				cases += tally.Cases[class]
			}
			for _, class := range group {
				if shares[class] != reduced(hits, cases) {
					t.Errorf("class %d of the group %v has the share %v for %v", class, group, shares[class], tally)
				}
			}
			if i > 0 && shares[group[0]] == shares[groups[i-1][0]] {
				t.Errorf("two groups of %v have one share: %v", tally, groups)
			}
		}
	}
}

// roomyTally returns a tally with more elements behind the length of its lists, and these lists
// with all that is behind their lengths.
func roomyTally(tally impl.Tally) (impl.Tally, [][]int) {
	cases := slices.Concat(tally.Cases, []int{7, -7, 0})
	hits := slices.Concat(tally.Hits, []int{9, 1, 0})
	return impl.Tally{Cases: cases[:len(tally.Cases)], Hits: hits[:len(tally.Hits)]}, [][]int{cases, hits}
}

// memoryTallies are without Cases, with some and with all; the last two are invalid.
func memoryTallies() []impl.Tally {
	return []impl.Tally{
		emptyTally(), writtenTally("1/4 . 2/2 . 1/5 . . . . . 9/10"), writtenTally(strings.Repeat("1/3 2/3 0/3 ", 3)), writtenTally(strings.Repeat("999/999 ", 11)),
		writtenTally(strings.Repeat("0/1 1/1 ", 5)), writtenTally("2/1"), {Cases: filled(10, 3), Hits: filled(10, 1)},
	}
}

func TestTalliesAreLeft(t *testing.T) {
	for _, plain := range memoryTallies() {
		tally, rooms := roomyTally(plain)
		other, otherRooms := roomyTally(writtenTally("1/1 0/1 1/1"))
		before, otherBefore := cloneLists(rooms), cloneLists(otherRooms)
		if isTally(plain) {
			checkTally(t, tally)
		} else {
			expectInvalid(t, "completed from behind its length", tally)
		}
		impl.AddTallies(tally, other)
		impl.AddTallies(other, tally)
		for _, class := range []int{-1, 0, 10, 11} {
			impl.AddCase(tally, class, true)
			impl.AddCase(tally, class, false)
			impl.FrequencyOf(tally, class)
		}
		for _, share := range noShares() {
			impl.ClassFor(tally, share)
		}
		if !sameLists(rooms, before) || !sameLists(otherRooms, otherBefore) {
			t.Errorf("a tally is modified: %v from %v, %v from %v", rooms, before, otherRooms, otherBefore)
		}
	}
}

// sumsOf are the results of the functions that return a tally.
func sumsOf(tally impl.Tally, other impl.Tally) []impl.Tally {
	hit, _ := impl.AddCase(tally, 0, true)
	miss, _ := impl.AddCase(tally, 10, false)
	sum, _ := impl.AddTallies(tally, other)
	turned, _ := impl.AddTallies(other, tally)
	zero, _ := impl.AddTallies(tally, emptyTally())
	return []impl.Tally{hit, miss, sum, turned, zero}
}

func listsOfTallies(tallies []impl.Tally) [][]int {
	lists := [][]int{}
	for _, tally := range tallies {
		lists = append(lists, tally.Cases, tally.Hits)
	}
	return lists
}

func TestSumsAndMemory(t *testing.T) {
	for _, plain := range memoryTallies()[:5] {
		tally, rooms := roomyTally(plain)
		other, otherRooms := roomyTally(writtenTally("1/1 0/1 1/1"))
		arguments := slices.Concat(rooms, otherRooms)
		before := cloneLists(arguments)
		lists := listsOfTallies(sumsOf(tally, other))
		for _, argument := range arguments {
			for _, list := range lists {
				if shareElements(list, argument) {
					t.Error("a sum shares memory with an argument")
				}
			}
		}
		for i, list := range lists {
			for _, earlier := range lists[:i] {
				if shareElements(list, earlier) {
					t.Error("two lists of sums share memory")
				}
			}
		}
		results := cloneLists(lists)
		for _, argument := range arguments {
			clear(argument)
		}
		if !sameLists(lists, results) {
			t.Errorf("sums change with their arguments: %v from %v", lists, results)
		}
		for i, argument := range arguments {
			copy(argument, before[i])
		}
		for _, list := range listsOfTallies(sumsOf(tally, other)) {
			clear(list[:cap(list)])
		}
		if !sameLists(arguments, before) {
			t.Errorf("arguments change with a sum: %v from %v", arguments, before)
		}
	}
}

func TestCalibrationsAndMemory(t *testing.T) {
	for _, plain := range memoryTallies()[:5] {
		tally, rooms := roomyTally(plain)
		before := cloneLists(rooms)
		shares, _ := impl.CalibrationOf(tally)
		groups, _ := impl.GroupsOf(tally)
		second, _ := impl.CalibrationOf(tally)
		if shareElements(shares, second) {
			t.Error("two calibrations share memory")
		}
		clear(second[:cap(second)])
		for _, room := range rooms {
			again, _ := impl.GroupsOf(tally)
			checkListsAndMemory(t, "GroupsOf", groups, again, room)
		}
		if !sameLists(rooms, before) {
			t.Errorf("the tally changes with a result: %v from %v", rooms, before)
		}
		for _, room := range rooms {
			clear(room)
		}
		expectShares(t, "CalibrationOf after the tally is changed", shares, true, plainCalibration(plain))
		expectLists(t, "GroupsOf after the tally is changed", groups, true, plainGroups(plain, plainCalibration(plain)))
	}
}

func TestTalliesThatShareMemory(t *testing.T) {
	list := []int{1, 0, 3, 0, 5, 0, 0, 8, 0, 0, 11}
	tally := impl.Tally{Cases: list, Hits: list}
	checkTally(t, tally)
	sum, ok := impl.AddCase(tally, 2, false)
	expectTally(t, "AddCase", sum, ok, writtenTally("1/1 . 3/4 . 5/5 . . 8/8 . . 11/11"))
	if shareElements(sum.Cases, sum.Hits) {
		t.Error("Cases and Hits of a sum share memory")
	}
	sum, ok = impl.AddTallies(tally, tally)
	expectTally(t, "AddTallies", sum, ok, writtenTally("2/2 . 6/6 . 10/10 . . 16/16 . . 22/22"))
	if shareElements(sum.Cases, sum.Hits) {
		t.Error("Cases and Hits of a sum share memory")
	}
}

func TestListsOfSharesAreLeft(t *testing.T) {
	all := writtenShares("1/2 1/3 1/1 0/1 2/4")
	before := slices.Clone(all)
	for size := range 6 {
		if size == 5 {
			expectNoOrder(t, all[:size])
		} else {
			expectOrder(t, all[:size], size < 2)
		}
	}
	if !slices.Equal(all, before) {
		t.Errorf("the shares are modified: %v from %v", all, before)
	}
}

func TestTalliesAreNotReadBehindTheLength(t *testing.T) {
	cases, hits := filled(14, 3), filled(14, 1)
	for size := range 15 {
		for other := range 15 {
			tally := impl.Tally{Cases: cases[:size], Hits: hits[:other]}
			if size == 11 && other == 11 {
				checkTally(t, tally)
			} else {
				expectInvalid(t, strconv.Itoa(size)+" and "+strconv.Itoa(other)+" elements", tally)
			}
		}
	}
}
