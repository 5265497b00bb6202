package tests

import (
	"math/bits"
	"math/rand/v2"
	"slices"
	"strconv"
	"strings"
	"testing"

	"loop.example/g00889/impl"
)

// stormList reads X, Y, Size and Peak of storms, "3,4,2,-7 5,5,1,9"; a storm without the last two
// has the Size 1 and the Peak 0.
func stormList(s string) []impl.Storm {
	list := []impl.Storm{}
	for _, word := range strings.Fields(s) {
		numbers := []int{}
		for _, digits := range strings.Split(word, ",") {
			n, err := strconv.Atoi(digits)
			if err != nil {
				panic("no storm: " + word)
			}
			numbers = append(numbers, n)
		}
		if len(numbers) == 2 {
			numbers = append(numbers, 1, 0)
		}
		list = append(list, impl.Storm{X: numbers[0], Y: numbers[1], Size: numbers[2], Peak: numbers[3]})
	}
	return list
}

// stormLists reads lists of storms that are separated by slashes.
func stormLists(s string) [][]impl.Storm {
	lists := [][]impl.Storm{}
	for _, part := range strings.Split(s, "/") {
		lists = append(lists, stormList(part))
	}
	return lists
}

// indices reads "1 -1 0".
func indices(s string) []int {
	list := []int{}
	for _, word := range strings.Fields(s) {
		n, err := strconv.Atoi(word)
		if err != nil {
			panic("no index: " + word)
		}
		list = append(list, n)
	}
	return list
}

func plainStorms(f impl.Field, limit int) []impl.Storm {
	storms := []impl.Storm{}
	for _, part := range plainParts(regionCase{f.Wide, f.High, plainAbove(f, limit)}) {
		values := []int{}
		for _, at := range part {
			values = append(values, f.Cells[at])
		}
		at := part[slices.Index(values, slices.Max(values))]
		storms = append(storms, impl.Storm{X: at % f.Wide, Y: at / f.Wide, Size: len(part), Peak: slices.Max(values)})
	}
	return storms
}

func plainDistance(a impl.Storm, b impl.Storm) int { return absolute(a.X-b.X) + absolute(a.Y-b.Y) }

// plainTrackings returns all trackings for lists of so many storms, in lexicographic order.
func plainTrackings(first int, second int) [][]int {
	trackings := [][]int{{}}
	for range first {
		longer := [][]int{}
		for _, before := range trackings {
			for index := -1; index < second; index++ {
				if index < 0 || !slices.Contains(before, index) {
					longer = append(longer, append(slices.Clone(before), index))
				}
			}
		}
		trackings = longer
	}
	return trackings
}

func plainIsTracking(list []int, first int, second int) bool {
	for i, index := range list {
		if index < -1 || index >= second || index >= 0 && slices.Index(list, index) != i {
			return false
		}
	}
	return len(list) == first
}

// plainCost goes over the storms of the first list and then over those of the second one.
func plainCost(a []impl.Storm, b []impl.Storm, tracking []int, penalty int) int {
	cost := 0
	for i, index := range tracking {
		if index < 0 {
			cost += penalty
		} else {
			cost += plainDistance(a[i], b[index])
		}
	}
	return cost + penalty*len(plainNew(b, tracking))
}

func plainNew(b []impl.Storm, tracking []int) []int {
	fresh := []int{}
	for index := range b {
		if !slices.Contains(tracking, index) {
			fresh = append(fresh, index)
		}
	}
	return fresh
}

func plainGrowth(a []impl.Storm, b []impl.Storm, tracking []int) [][2]int {
	growth := [][2]int{}
	for i, index := range tracking {
		if index < 0 {
			growth = append(growth, [2]int{0, 0})
		} else {
			growth = append(growth, [2]int{b[index].Size - a[i].Size, b[index].Peak - a[i].Peak})
		}
	}
	return growth
}

// plainLeast is the smallest cost of the storms of a from the index i on and of those of b that
// are not in the set used.
func plainLeast(a []impl.Storm, b []impl.Storm, penalty int, i int, used uint) int {
	if i == len(a) {
		return penalty * (len(b) - bits.OnesCount(used))
	}
	least := penalty + plainLeast(a, b, penalty, i+1, used)
	for k := range b {
		if used>>k&1 == 0 {
			least = min(least, plainDistance(a[i], b[k])+plainLeast(a, b, penalty, i+1, used|1<<k))
		}
	}
	return least
}

// plainBest gives every storm in turn the smallest index with which the cost can still be reached.
func plainBest(a []impl.Storm, b []impl.Storm, penalty int) ([]int, int) {
	best, used := []int{}, uint(0)
	for i, storm := range a {
		least, index := plainLeast(a, b, penalty, i, used), -1
		for reached := penalty + plainLeast(a, b, penalty, i+1, used); reached > least; {
			index++
			if used>>index&1 == 0 {
				reached = plainDistance(storm, b[index]) + plainLeast(a, b, penalty, i+1, used|1<<index)
			}
		}
		best = append(best, index)
		if index >= 0 {
			used |= 1 << index
		}
	}
	return best, plainLeast(a, b, penalty, 0, 0)
}

// plainTracks returns all tracks in the order in which they begin, each as the pairs of the list
// and the index of its storms.
func plainTracks(lists [][]impl.Storm, penalty int) [][][2]int {
	tracks, before := [][][2]int{}, map[int]int{}
	for i, list := range lists {
		numbers := map[int]int{}
		if i > 0 {
			best, _ := plainBest(lists[i-1], list, penalty)
			for from, to := range best {
				if to >= 0 {
					numbers[to] = before[from]
				}
			}
		}
		for storm := range list {
			number, is := numbers[storm]
			if !is {
				number = len(tracks)
				numbers[storm] = number
				tracks = append(tracks, nil)
			}
			tracks[number] = append(tracks[number], [2]int{i, storm})
		}
		before = numbers
	}
	return tracks
}

// plainLongest returns the first one of the tracks with the most storms.
func plainLongest(tracks [][][2]int) [][2]int {
	longest := tracks[0]
	for _, track := range tracks {
		if len(track) > len(longest) {
			longest = track
		}
	}
	return longest
}

// plainLength returns 0 for a storm that is on no track.
func plainLength(tracks [][][2]int, list int, storm int) int {
	for _, track := range tracks {
		if at := slices.Index(track, [2]int{list, storm}); at >= 0 {
			return len(track) - at
		}
	}
	return 0
}

func expectElements[E comparable](t *testing.T, what string, got []E, ok bool, want []E) {
	t.Helper()
	if !ok || !slices.Equal(got, want) {
		t.Errorf("%s = %v, %v, not %v", what, got, ok, want)
	}
}

func expectNoElements[E any](t *testing.T, what string, got []E, ok bool) {
	t.Helper()
	if ok || len(got) != 0 {
		t.Errorf("%s = %v, %v", what, got, ok)
	}
}

func expectStorms(t *testing.T, f impl.Field, limit int, want []impl.Storm) {
	t.Helper()
	got, ok := impl.StormsOf(f, limit)
	if !ok || !slices.Equal(got, want) {
		t.Errorf("StormsOf %v for %d = %v, %v, not %v", f, limit, got, ok, want)
	}
}

func expectNoStorms(t *testing.T, f impl.Field, limit int) {
	t.Helper()
	if got, ok := impl.StormsOf(f, limit); ok || len(got) != 0 {
		t.Errorf("StormsOf %v for %d = %v, %v", f, limit, got, ok)
	}
}

func expectCost(t *testing.T, a []impl.Storm, b []impl.Storm, tracking []int, penalty int, want int) {
	t.Helper()
	got, ok := impl.TrackingCost(a, b, tracking, penalty)
	if !ok || got != want {
		t.Errorf("TrackingCost of %v, %v and %v for %d = %d, %v, not %d", a, b, tracking, penalty, got, ok, want)
	}
}

func expectBest(t *testing.T, a []impl.Storm, b []impl.Storm, penalty int, want []int, wantCost int) {
	t.Helper()
	got, cost, ok := impl.BestTracking(a, b, penalty)
	if !ok || !slices.Equal(got, want) || cost != wantCost {
		t.Errorf("BestTracking of %v and %v for %d = %v, %d, %v, not %v, %d", a, b, penalty, got, cost, ok, want, wantCost)
	}
}

func expectNoBest(t *testing.T, a []impl.Storm, b []impl.Storm, penalty int) {
	t.Helper()
	if got, cost, ok := impl.BestTracking(a, b, penalty); ok || len(got) != 0 || cost != 0 {
		t.Errorf("BestTracking of %v and %v for %d = %v, %d, %v", a, b, penalty, got, cost, ok)
	}
}

// expectNoTracking fails unless every function of chapter 12 for two lists and a tracking rejects these.
func expectNoTracking(t *testing.T, what string, a []impl.Storm, b []impl.Storm, tracking []int) {
	t.Helper()
	for _, penalty := range []int{-1, 0, 1, 20, 21} {
		cost, ok := impl.TrackingCost(a, b, tracking, penalty)
		expectNoNumber(t, "TrackingCost for "+what, cost, ok)
	}
	fresh, ok := impl.NewStorms(a, b, tracking)
	expectNoElements(t, "NewStorms for "+what, fresh, ok)
	growth, ok := impl.GrowthOf(a, b, tracking)
	expectNoElements(t, "GrowthOf for "+what, growth, ok)
}

// expectNoLists fails unless every function of chapter 12 for two lists rejects these.
func expectNoLists(t *testing.T, what string, a []impl.Storm, b []impl.Storm) {
	t.Helper()
	for _, penalty := range []int{-1, 0, 1, 20, 21} {
		expectNoBest(t, a, b, penalty)
	}
	first := make([]int, len(a))
	for i := range first {
		first[i] = min(i, len(b)-1)
	}
	for _, tracking := range [][]int{nil, {0}, {-1}, filled(len(a), -1), first} {
		expectNoTracking(t, what, a, b, tracking)
	}
}

// expectNoTracks fails unless the functions of tracks reject lists and a penalty.
func expectNoTracks(t *testing.T, what string, lists [][]impl.Storm, penalty int) {
	t.Helper()
	list, storm, ok := impl.LongestTrack(lists, penalty)
	expectNoPair(t, "LongestTrack of "+what, list, storm, ok)
	for i := -1; i <= len(lists); i++ {
		for k := -1; k <= 6; k++ {
			length, ok := impl.TrackLength(lists, penalty, i, k)
			expectNoNumber(t, "TrackLength of "+what, length, ok)
		}
	}
}

// checkTracking holds every function for a tracking against the tests' own.
func checkTracking(t *testing.T, a []impl.Storm, b []impl.Storm, tracking []int, penalties ...int) {
	t.Helper()
	for _, penalty := range penalties {
		expectCost(t, a, b, tracking, penalty, plainCost(a, b, tracking, penalty))
	}
	fresh, ok := impl.NewStorms(a, b, tracking)
	expectElements(t, "NewStorms", fresh, ok, plainNew(b, tracking))
	growth, ok := impl.GrowthOf(a, b, tracking)
	expectElements(t, "GrowthOf", growth, ok, plainGrowth(a, b, tracking))
}

// checkLists holds the best tracking and all trackings against the tests' own.
func checkLists(t *testing.T, a []impl.Storm, b []impl.Storm, penalties ...int) {
	t.Helper()
	for _, penalty := range penalties {
		best, cost := plainBest(a, b, penalty)
		expectBest(t, a, b, penalty, best, cost)
		checkCheapest(t, a, b, penalty)
	}
	for _, tracking := range plainTrackings(len(a), len(b)) {
		checkTracking(t, a, b, tracking, penalties...)
	}
}

// checkCheapest holds the promise: the best tracking does not cost more than any other one. Of
// those that cost as much, none is lexicographically smaller.
func checkCheapest(t *testing.T, a []impl.Storm, b []impl.Storm, penalty int) {
	t.Helper()
	best, cost, ok := impl.BestTracking(a, b, penalty)
	if !ok {
		t.Errorf("BestTracking of %v and %v for %d fails", a, b, penalty)
		return
	}
	expectCost(t, a, b, best, penalty, cost)
	for _, other := range plainTrackings(len(a), len(b)) {
		otherCost, ok := impl.TrackingCost(a, b, other, penalty)
		if !ok || otherCost < cost || otherCost == cost && slices.Compare(other, best) < 0 {
			t.Errorf("%v with the cost %d is the best one of %v and %v for %d, not %v with %d, %v", best, cost, a, b, penalty, other, otherCost, ok)
		}
	}
}

// checkTracks holds the tracks through lists against the tests' own, and the longest one against
// all others.
func checkTracks(t *testing.T, lists [][]impl.Storm, penalty int) {
	t.Helper()
	tracks := plainTracks(lists, penalty)
	list, storm, ok := impl.LongestTrack(lists, penalty)
	if len(tracks) == 0 {
		expectNoPair(t, "LongestTrack", list, storm, ok)
	} else {
		begin := plainLongest(tracks)[0]
		expectPair(t, "LongestTrack", list, storm, ok, begin[0], begin[1])
	}
	longest, _ := impl.TrackLength(lists, penalty, list, storm)
	for i := -1; i <= len(lists); i++ {
		for k := -1; k <= 6; k++ {
			length, ok := impl.TrackLength(lists, penalty, i, k)
			want := plainLength(tracks, i, k)
			if length != want || ok != (want > 0) {
				t.Errorf("TrackLength of %v for %d from %d in %d = %d, %v, not %d", lists, penalty, k, i, length, ok, want)
			}
			if length > longest {
				t.Errorf("the longest track of %v for %d has %d storms, but that from %d in %d has %d", lists, penalty, longest, k, i, length)
			}
		}
	}
}

func TestLimitOfStorms(t *testing.T) {
	if impl.MaxStorms != 5 {
		t.Error("limit", impl.MaxStorms)
	}
}

func TestStormsByHand(t *testing.T) {
	for _, c := range []struct {
		f     string
		limit int
		want  string
	}{
		// without a storm, with one of one cell and with one of all cells
		{"5", 4, "0,0,1,5"}, {"5", 5, ""}, {"5", 6, ""}, {".", 4, ""}, {"-5", -6, "0,0,1,-5"}, {"-5", -5, ""}, {"0", -1, "0,0,1,0"}, {"0", 0, ""},
		{"0 0/0 0", 0, ""}, {"0 0/0 0", -1, "0,0,4,0"}, {". ./. .", 0, ""}, {"0 0 0/0 1 0/0 0 0", 0, "1,1,1,1"}, {"0 0 0/0 1 0/0 0 0", -1, "1,1,9,1"},
		// at the border and in the corners
		{"1 0 1/0 0 0/1 0 1", 0, "0,0,1,1 2,0,1,1 0,2,1,1 2,2,1,1"}, {"0 1 0/1 0 1/0 1 0", 0, "1,0,1,1 0,1,1,1 2,1,1,1 1,2,1,1"}, {"1 1 1/1 0 1/1 1 1", 0, "0,0,8,1"}, {"1 1 1/1 5 1/1 1 1", 4, "1,1,1,5"},
		{"0 0 0 3/3 0 0 0", 2, "3,0,1,3 0,1,1,3"}, {"3 0 0 0/0 0 0 3", 2, "0,0,1,3 3,1,1,3"}, {"0 0 2/3 0 0", 1, "2,0,1,2 0,1,1,3"},
		// cells that touch at a corner only, and at the end of a row and the beginning of the next one
		{"1 0/0 2", 0, "0,0,1,1 1,1,1,2"}, {"0 1/2 0", 0, "1,0,1,1 0,1,1,2"}, {"1 1 0/0 0 1", 0, "0,0,2,1 2,1,1,1"}, {"0 0 1/1 0 0", 0, "2,0,1,1 0,1,1,1"}, {"1 0 1/0 1 0/1 0 1", 0, "0,0,1,1 2,0,1,1 1,1,1,1 0,2,1,1 2,2,1,1"},
		// the peak in the first cell, in the last one and between them
		{"9 8 7", 6, "0,0,3,9"}, {"7 8 9", 6, "2,0,3,9"}, {"7 9 8", 6, "1,0,3,9"}, {"9/8/7", 6, "0,0,3,9"}, {"7/8/9", 6, "0,2,3,9"}, {"7/9/8", 6, "0,1,3,9"}, {"1 2/3 4", 0, "1,1,4,4"}, {"1 2/4 3", 0, "0,1,4,4"}, {"-3 -2 -4", -5, "1,0,3,-2"},
		// the peak in several cells at once
		{"9 7 9", 6, "0,0,3,9"}, {"7 9 9", 6, "1,0,3,9"}, {"7 9 8 9", 6, "1,0,4,9"}, {"1 9/9 1", 0, "1,0,4,9"}, {"9 1/1 9", 0, "0,0,4,9"}, {"7/9/9", 6, "0,1,3,9"}, {"7 . 9/8 9 8", 6, "2,0,5,9"}, {"7 7 7/0 0 9/9 9 8", 6, "2,1,7,9"},
		{"0 0 9/9 0 8/7 8 7", 6, "2,0,6,9"}, {"0 0 8/9 0 9/7 8 7", 6, "0,1,6,9"}, {"-1 -1/-1 -1", -2, "0,0,4,-1"},
		// the order is that of the first cells, not that of the peaks
		{"9 0 2/0 0 2/1 0 8", 0, "0,0,1,9 2,2,3,8 0,2,1,1"}, {"1 0 2 0 3", 0, "0,0,1,1 2,0,1,2 4,0,1,3"}, {"3 0 2 0 1", 0, "0,0,1,3 2,0,1,2 4,0,1,1"}, {"0 0 1/5 0 1/5 0 1/0 0 1", 0, "2,0,4,1 0,1,2,5"},
		{"0 1 0 4/0 1 0 0/9 1 0 3", 0, "0,2,4,9 3,0,1,4 3,2,1,3"},
		// cells with exactly the limit and with missing values
		{"5 4 5", 4, "0,0,1,5 2,0,1,5"}, {"5 4 5", 3, "0,0,3,5"}, {"5 . 5", 4, "0,0,1,5 2,0,1,5"}, {"5 . 5", -9000, "0,0,1,5 2,0,1,5"}, {"5 . 5", -10000, "0,0,1,5 2,0,1,5"}, {". 5 .", 4, "1,0,1,5"}, {". 5 .", -9999, "1,0,1,5"},
		{"-9000 . -9000", -9001, "0,0,1,-9000 2,0,1,-9000"}, {"-9000 . -8999", -9000, "2,0,1,-8999"}, {"-9000 -8999", -9001, "1,0,2,-8999"}, {"9000 8999", 8999, "0,0,1,9000"}, {"9000 8999", 9000, ""}, {"9000 8999", 8998, "0,0,2,9000"},
	} {
		expectStorms(t, grid(c.f), c.limit, stormList(c.want))
		expectStorms(t, grid(c.f), c.limit, plainStorms(grid(c.f), c.limit))
	}
}

func TestLimitsOfTheStormsOfAField(t *testing.T) {
	f := grid("-9000 -1 0/. 1 9000/0 0 0")
	for _, limit := range append(farNumbers(), -9999, -10000, -9998, -9001, -9000, -8999, -2, -1, 0, 1, 2, 8999, 9000, 9001, 9999) {
		expectStorms(t, f, limit, plainStorms(f, limit))
		empty := fieldOf(3, 3, filled(9, gone)...)
		expectStorms(t, empty, limit, nil)
	}
	expectStorms(t, f, -9001, stormList("2,1,8,9000"))
	expectStorms(t, f, -1<<63, stormList("2,1,8,9000"))
	expectStorms(t, f, -9000, stormList("2,1,7,9000"))
	expectStorms(t, f, 8999, stormList("2,1,1,9000"))
	expectStorms(t, f, 9000, nil)
	expectStorms(t, f, 1<<63-1, nil)
}

func TestNumberOfStorms(t *testing.T) {
	apart := [][2]int{{0, 0}, {7, 0}, {3, 3}, {0, 7}, {7, 7}, {5, 4}, {2, 5}}
	for count := range len(apart) + 1 {
		f, want := fieldOf(8, 8, filled(64, 0)...), []impl.Storm{}
		for i, place := range apart[:count] {
			f.Cells[place[1]*8+place[0]] = i + 1
		}
		for at, cell := range f.Cells {
			if cell > 0 {
				want = append(want, impl.Storm{X: at % 8, Y: at / 8, Size: 1, Peak: cell})
			}
		}
		if count <= 5 {
			expectStorms(t, f, 0, want)
		} else {
			expectNoStorms(t, f, 0)
		}
		if count > 0 {
			expectStorms(t, f, -1, []impl.Storm{{X: apart[count-1][0], Y: apart[count-1][1], Size: 64, Peak: count}})
		}
		if count > 6 {
			expectStorms(t, f, 2, want[len(want)-5:])
		}
	}
	board := countingField(8, 8)
	for at := range board.Cells {
		board.Cells[at] *= (at + at/8) % 2
	}
	expectNoStorms(t, board, 0)
	expectNoStorms(t, board, 53)
	expectStorms(t, board, 54, stormList("7,6,1,56 0,7,1,57 2,7,1,59 4,7,1,61 6,7,1,63"))
	expectNoStorms(t, grid("1 0 1 0 1 0/0 1 0 1 0 1"), 0)
	expectStorms(t, grid("1 0 1 0 1 0/0 1 0 1 0 0"), 0, stormList("0,0,1,1 2,0,1,1 4,0,1,1 1,1,1,1 3,1,1,1"))
}

func TestStormsOfEveryPlace(t *testing.T) {
	everyShape(func(wide int, high int) {
		for at := range wide * high {
			f := fieldOf(wide, high, filled(wide*high, 3)...)
			f.Cells[at] = 8
			peak := impl.Storm{X: at % wide, Y: at / wide, Size: 1, Peak: 8}
			expectStorms(t, f, 3, []impl.Storm{peak})
			expectStorms(t, f, 7, []impl.Storm{peak})
			expectStorms(t, f, 8, nil)
			peak.Size = wide * high
			expectStorms(t, f, 2, []impl.Storm{peak})
		}
		expectStorms(t, fieldOf(wide, high, filled(wide*high, 3)...), 2, []impl.Storm{{X: 0, Y: 0, Size: wide * high, Peak: 3}})
		expectStorms(t, countingField(wide, high), 0, []impl.Storm{{X: wide - 1, Y: high - 1, Size: wide * high, Peak: wide * high}})
	})
}

func TestStormsRejectFields(t *testing.T) {
	for name, bad := range invalidFields() {
		for _, limit := range append(farNumbers(), -9001, -1, 0, 4, 9000) {
			if storms, ok := impl.StormsOf(bad, limit); ok || len(storms) != 0 {
				t.Errorf("StormsOf %s = %v, %v", name, storms, ok)
			}
		}
	}
}

// checkStorms holds the storms of a field against the tests' own, and each as one that the other
// functions accept.
func checkStorms(t *testing.T, f impl.Field, limit int) int {
	t.Helper()
	want := plainStorms(f, limit)
	if len(want) > 5 {
		expectNoStorms(t, f, limit)
		return len(want)
	}
	expectStorms(t, f, limit, want)
	if _, _, ok := impl.BestTracking(want, want, 3); !ok {
		t.Errorf("the storms of a field are no list of storms: %v", want)
	}
	return len(want)
}

func TestStormsOfEverySmallField(t *testing.T) {
	for _, shape := range [][2]int{{1, 1}, {2, 1}, {1, 2}, {3, 1}, {1, 3}, {2, 2}, {4, 1}, {1, 4}, {5, 1}, {1, 5}} {
		listsOver([]int{gone, -1, 0, 2}, shape[0]*shape[1], func(list []int) {
			for limit := -2; limit <= 2; limit++ {
				checkStorms(t, fieldOf(shape[0], shape[1], list...), limit)
			}
		})
	}
	counts := map[int]int{}
	for _, shape := range [][2]int{{3, 2}, {2, 3}, {3, 3}, {4, 3}, {3, 4}} {
		listsOver([]int{0, 1}, shape[0]*shape[1], func(list []int) {
			counts[checkStorms(t, fieldOf(shape[0], shape[1], list...), 0)]++
		})
	}
	listsOver([]int{0, 1, 2}, 6, func(list []int) { checkStorms(t, fieldOf(3, 2, list...), 0) })
	if counts[0] == 0 || counts[5] == 0 || counts[6] == 0 {
		t.Error("fields by their numbers of storms:", counts)
	}
}

func TestStormsOfFieldsOfEveryShape(t *testing.T) {
	random := rand.New(rand.NewPCG(12, 1))
	counts := map[int]int{}
	everyShape(func(wide int, high int) {
		for _, share := range []int{0, 10, 60, 90} {
			for _, limit := range []int{-9000, -3, 0, 2, 3} {
				counts[checkStorms(t, sparseField(random, wide, high, 4, share), limit)]++
			}
		}
	})
	if counts[0] < 10 || counts[1] < 10 || counts[5] < 10 || counts[6] < 10 {
		t.Error("fields by their numbers of storms:", counts)
	}
}

// stormsInRange have every number at one end of its range.
func stormsInRange() []impl.Storm {
	list := []impl.Storm{}
	for _, x := range []int{0, 7} {
		for _, y := range []int{0, 7} {
			for _, size := range []int{1, 64} {
				for _, peak := range []int{-9000, 9000} {
					list = append(list, impl.Storm{X: x, Y: y, Size: size, Peak: peak})
				}
			}
		}
	}
	return list
}

// badStorms have one number beyond its range.
func badStorms() []impl.Storm {
	list := []impl.Storm{{}, {X: -1, Y: -1, Size: -1, Peak: -9001}, {X: 8, Y: 8, Size: 65, Peak: 9001}}
	for _, far := range append(farNumbers(), -1, 8, 9, 64, 100, gone, -gone) {
		list = append(list, impl.Storm{X: far, Y: 3, Size: 2, Peak: 5}, impl.Storm{X: 3, Y: far, Size: 2, Peak: 5})
	}
	for _, far := range append(farNumbers(), -64, -1, 0, 65, 66, 81, 128, gone) {
		list = append(list, impl.Storm{X: 3, Y: 4, Size: far, Peak: 5})
	}
	for _, far := range append(badCells(), gone) {
		list = append(list, impl.Storm{X: 3, Y: 4, Size: 2, Peak: far})
	}
	return list
}

func TestStormDistances(t *testing.T) {
	for _, c := range [][5]int{
		{0, 0, 0, 0, 0}, {7, 7, 7, 7, 0}, {3, 5, 3, 5, 0}, {0, 0, 1, 0, 1}, {0, 0, 0, 1, 1}, {2, 6, 5, 6, 3}, {2, 6, 2, 1, 5}, {0, 0, 7, 7, 14}, {0, 7, 7, 0, 14}, {1, 2, 3, 5, 5}, {1, 5, 3, 2, 5}, {6, 1, 2, 4, 7},
	} {
		a, b := impl.Storm{X: c[0], Y: c[1], Size: 1}, impl.Storm{X: c[2], Y: c[3], Size: 1}
		there, ok := impl.StormDistance(a, b)
		expectNumber(t, "StormDistance", there, ok, c[4])
		back, ok := impl.StormDistance(b, a)
		expectNumber(t, "StormDistance back", back, ok, c[4])
	}
	for from := range 64 {
		for to := range 64 {
			a, b := impl.Storm{X: from % 8, Y: from / 8, Size: 1 + from, Peak: 9 * to}, impl.Storm{X: to % 8, Y: to / 8, Size: 64 - to, Peak: -7 * from}
			there, ok := impl.StormDistance(a, b)
			expectNumber(t, "StormDistance", there, ok, absolute(from%8-to%8)+absolute(from/8-to/8))
			back, ok := impl.StormDistance(b, a)
			expectNumber(t, "StormDistance back", back, ok, there)
		}
	}
	for _, a := range stormsInRange() {
		for _, b := range stormsInRange() {
			there, ok := impl.StormDistance(a, b)
			expectNumber(t, "StormDistance at the ends", there, ok, plainDistance(a, b))
		}
	}
}

func TestDistancesRejectStorms(t *testing.T) {
	for _, bad := range badStorms() {
		for _, good := range append(stormsInRange(), impl.Storm{X: 3, Y: 4, Size: 2, Peak: 5}) {
			first, ok := impl.StormDistance(bad, good)
			expectNoNumber(t, "StormDistance from a bad storm", first, ok)
			second, ok := impl.StormDistance(good, bad)
			expectNoNumber(t, "StormDistance to a bad storm", second, ok)
		}
		both, ok := impl.StormDistance(bad, bad)
		expectNoNumber(t, "StormDistance of a bad storm", both, ok)
	}
}

// someStorms are a list of storms at different places.
func someStorms(count int) []impl.Storm {
	return stormList("1,1,3,50 6,2,1,-4 3,6,12,900 0,7,2,8 7,7,5,6 4,4,9,1 2,0,4,4 5,6,1,1")[:count]
}

func TestNumbersOfStormsInLists(t *testing.T) {
	for first := range 8 {
		for second := range 8 {
			a, b := someStorms(first), someStorms(second)
			if first <= 5 && second <= 5 {
				checkLists(t, a, b, 0, 3, 20)
				checkTracks(t, [][]impl.Storm{a, b}, 3)
			} else {
				expectNoLists(t, "too many storms", a, b)
				expectNoTracks(t, "too many storms", [][]impl.Storm{a, b}, 3)
			}
		}
	}
	many := slices.Repeat(someStorms(1), 1<<16+1)
	expectNoLists(t, "very many storms", many, someStorms(1))
	expectNoLists(t, "very many storms", someStorms(1), many)
}

func TestStormsInRangeAreAccepted(t *testing.T) {
	list := stormsInRange()
	for i := range list {
		for _, other := range list {
			checkLists(t, list[i:i+1], []impl.Storm{other}, 0, 7, 20)
		}
		a := slices.Concat(list[i:], list[:i])[:5]
		checkLists(t, a, list[:3], 4)
		checkTracks(t, [][]impl.Storm{a, list[3:5], a}, 12)
	}
}

func TestListsRejectStorms(t *testing.T) {
	for _, bad := range badStorms() {
		for count := 1; count <= 5; count++ {
			for at := range count {
				list := someStorms(count)
				list[at] = bad
				for _, good := range [][]impl.Storm{nil, someStorms(1), someStorms(count)} {
					expectNoLists(t, "a bad storm in the first list", list, good)
					expectNoLists(t, "a bad storm in the second list", good, list)
				}
				expectNoLists(t, "a bad storm in both lists", list, list)
			}
		}
	}
}

func TestPenalties(t *testing.T) {
	a, b := someStorms(3), someStorms(5)[2:]
	for _, penalty := range append(farNumbers(), -21, -20, -2, -1, 21, 22, 40, 256, gone, 9000) {
		cost, ok := impl.TrackingCost(a, b, []int{-1, 1, 0}, penalty)
		expectNoNumber(t, "TrackingCost", cost, ok)
		cost, ok = impl.TrackingCost(nil, nil, nil, penalty)
		expectNoNumber(t, "TrackingCost without storms", cost, ok)
		expectNoBest(t, a, b, penalty)
		expectNoBest(t, nil, b, penalty)
		expectNoBest(t, a, nil, penalty)
		expectNoBest(t, nil, nil, penalty)
		for _, lists := range [][][]impl.Storm{nil, {nil}, {a}, {a, b}, {nil, a}, {a, nil}, {a, b, a, b, a, b}} {
			expectNoTracks(t, "a penalty out of range", lists, penalty)
		}
	}
	for penalty := range 21 {
		checkLists(t, a, b, penalty)
		checkLists(t, nil, b, penalty)
		checkLists(t, a, nil, penalty)
		checkLists(t, nil, nil, penalty)
		for _, lists := range [][][]impl.Storm{{a}, {a, b}, {nil, a}, {a, nil}, {a, b, a, b, a, b}} {
			checkTracks(t, lists, penalty)
		}
	}
}

func TestCostsByHand(t *testing.T) {
	for _, c := range []struct {
		a, b     string
		tracking string
		penalty  int
		cost     int
		fresh    string
		growth   [][2]int
	}{
		// all storms in pairs
		{"0,0,2,9", "0,0,2,9", "0", 5, 0, "", [][2]int{{0, 0}}}, {"0,0,2,9", "3,1,5,7", "0", 5, 4, "", [][2]int{{3, -2}}}, {"3,1,5,7", "0,0,2,9", "0", 20, 4, "", [][2]int{{-3, 2}}},
		{"0,0,1,1 5,5,9,9", "5,6,9,8 1,0,2,1", "1 0", 5, 2, "", [][2]int{{1, 0}, {0, -1}}}, {"0,0,1,1 5,5,9,9", "5,6,9,8 1,0,2,1", "0 1", 5, 20, "", [][2]int{{8, 7}, {-7, -8}}},
		// some of them
		{"0,0,2,9 5,5,1,4", "5,6,3,6 1,0,2,7", "-1 0", 5, 11, "1", [][2]int{{0, 0}, {2, 2}}}, {"0,0,2,9 5,5,1,4", "5,6,3,6 1,0,2,7", "1 -1", 5, 11, "0", [][2]int{{0, -2}, {0, 0}}},
		{"0,0,2,9 5,5,1,4", "5,6,3,6 1,0,2,7", "-1 1", 3, 15, "0", [][2]int{{0, 0}, {1, 3}}}, {"0,0,2,9", "5,6,3,6 1,0,2,7 7,7,1,1", "1", 20, 41, "0 2", [][2]int{{0, -2}}}, {"5,6,3,6 1,0,2,7 7,7,1,1", "0,0,2,9", "-1 0 -1", 20, 41, "", [][2]int{{0, 0}, {0, 2}, {0, 0}}},
		// none: storms that disappear, that appear, and that do both at once
		{"0,0", "", "-1", 7, 7, "", [][2]int{{0, 0}}}, {"", "0,0", "", 7, 7, "0", nil}, {"0,0", "0,0", "-1", 7, 14, "0", [][2]int{{0, 0}}}, {"0,0 1,1 2,2", "3,3 4,4", "-1 -1 -1", 4, 20, "0 1", [][2]int{{0, 0}, {0, 0}, {0, 0}}},
		{"0,0 1,1 2,2", "", "-1 -1 -1", 20, 60, "", [][2]int{{0, 0}, {0, 0}, {0, 0}}}, {"", "3,3 4,4", "", 20, 40, "0 1", nil}, {"", "", "", 20, 0, "", nil}, {"0,0", "7,7", "-1", 0, 0, "0", [][2]int{{0, 0}}}, {"0,0", "7,7", "0", 0, 14, "", [][2]int{{0, 0}}},
		// the greatest changes and costs
		{"0,0,1,-9000", "0,0,64,9000", "0", 0, 0, "", [][2]int{{63, 18000}}}, {"0,0,64,9000", "0,0,1,-9000", "0", 0, 0, "", [][2]int{{-63, -18000}}}, {"0,0 0,0 0,0 0,0 0,0", "7,7 7,7 7,7 7,7 7,7", "4 3 2 1 0", 20, 70, "", [][2]int{{}, {}, {}, {}, {}}},
		{"0,0 0,0 0,0 0,0 0,0", "7,7 7,7 7,7 7,7 7,7", "-1 -1 -1 -1 -1", 20, 200, "0 1 2 3 4", [][2]int{{}, {}, {}, {}, {}}}, {"0,0 0,0 0,0 0,0 0,0", "7,7 7,7 7,7 7,7 7,7", "-1 4 -1 1 -1", 20, 148, "0 2 3", [][2]int{{}, {}, {}, {}, {}}},
	} {
		a, b, tracking := stormList(c.a), stormList(c.b), indices(c.tracking)
		expectCost(t, a, b, tracking, c.penalty, c.cost)
		fresh, ok := impl.NewStorms(a, b, tracking)
		expectElements(t, "NewStorms of "+c.b+" for "+c.tracking, fresh, ok, indices(c.fresh))
		growth, ok := impl.GrowthOf(a, b, tracking)
		expectElements(t, "GrowthOf "+c.a+" to "+c.b+" for "+c.tracking, growth, ok, c.growth)
		checkLists(t, a, b, c.penalty)
	}
}

func TestGrowthOfEverySizeAndPeak(t *testing.T) {
	for _, sizes := range [][3]int{{1, 1, 0}, {1, 2, 1}, {2, 1, -1}, {64, 1, -63}, {1, 64, 63}, {30, 31, 1}, {31, 30, -1}, {64, 64, 0}} {
		for _, peaks := range [][3]int{{0, 0, 0}, {3, 4, 1}, {4, 3, -1}, {-9000, 9000, 18000}, {9000, -9000, -18000}, {-5, 5, 10}, {-5, -7, -2}, {9000, 9000, 0}} {
			a := impl.Storm{X: 2, Y: 3, Size: sizes[0], Peak: peaks[0]}
			b := impl.Storm{X: 7, Y: 0, Size: sizes[1], Peak: peaks[1]}
			growth, ok := impl.GrowthOf([]impl.Storm{a}, []impl.Storm{b}, []int{0})
			expectElements(t, "GrowthOf", growth, ok, [][2]int{{sizes[2], peaks[2]}})
			growth, ok = impl.GrowthOf([]impl.Storm{a, b, a}, []impl.Storm{a, b}, []int{1, -1, 0})
			expectElements(t, "GrowthOf", growth, ok, [][2]int{{sizes[2], peaks[2]}, {0, 0}, {0, 0}})
			growth, ok = impl.GrowthOf([]impl.Storm{a}, []impl.Storm{b}, []int{-1})
			expectElements(t, "GrowthOf without pairs", growth, ok, [][2]int{{0, 0}})
		}
	}
}

func TestEveryListAsATracking(t *testing.T) {
	for first := range 4 {
		for second := range 4 {
			a, b := someStorms(first), someStorms(4)[4-second:]
			numbers := []int{}
			for n := -3; n <= second+1; n++ {
				numbers = append(numbers, n)
			}
			for size := range 5 {
				listsOver(numbers, size, func(list []int) {
					if plainIsTracking(list, first, second) {
						checkTracking(t, a, b, list, 0, 1, 20)
					} else {
						expectNoTracking(t, "no tracking", a, b, list)
					}
				})
			}
		}
	}
}

func TestTrackingsOfTheGreatestLists(t *testing.T) {
	a, b := someStorms(5), someStorms(7)[2:]
	for _, tracking := range plainTrackings(5, 5) {
		checkTracking(t, a, b, tracking, 4)
		for at, index := range tracking {
			for _, other := range tracking[:at] {
				twice := slices.Clone(tracking)
				twice[at] = other
				if other >= 0 && index != other {
					expectNoTracking(t, "an index twice", a, b, twice)
				}
			}
		}
	}
	for at := range 5 {
		for _, far := range append(farNumbers(), -2, -3, -5, 5, 6, 10, 64, 256, gone) {
			for _, tracking := range [][]int{{0, 1, 2, 3, 4}, {-1, -1, -1, -1, -1}, {4, 3, 2, 1, 0}, {1, -1, 0, 4, -1}} {
				tracking[at] = far
				expectNoTracking(t, "an index out of range", a, b, tracking)
			}
		}
	}
	for _, tracking := range [][]int{nil, {0, 1, 2, 3}, {-1, -1, -1, -1, -1, -1}, {0, 1, 2, 3, 4, -1}, {-1}, filled(1<<16+5, -1), filled(5<<16, -1)} {
		expectNoTracking(t, "a tracking of another length", a, b, tracking)
	}
}

func TestBestTrackingsByHand(t *testing.T) {
	for _, c := range []struct {
		a, b    string
		penalty int
		best    string
		cost    int
	}{
		// empty lists
		{"", "", 5, "", 0}, {"", "1,1", 5, "", 5}, {"1,1", "", 5, "-1", 5}, {"", "1,1 2,2 3,3 4,4 5,5", 20, "", 100}, {"1,1 2,2 3,3 4,4 5,5", "", 20, "-1 -1 -1 -1 -1", 100}, {"", "1,1", 0, "", 0}, {"1,1", "", 0, "-1", 0},
		// a pair that costs less than two penalties, exactly as much, and more
		{"0,0", "0,5", 3, "0", 5}, {"0,0", "0,6", 3, "-1", 6}, {"0,0", "0,7", 3, "-1", 6}, {"0,0", "3,2", 3, "0", 5}, {"0,0", "3,3", 3, "-1", 6}, {"0,0", "4,3", 3, "-1", 6}, {"0,0", "0,0", 1, "0", 0}, {"0,0", "0,0", 0, "-1", 0}, {"0,0", "0,1", 0, "-1", 0},
		{"0,0", "0,1", 1, "0", 1}, {"0,0", "1,1", 1, "-1", 2}, {"0,0", "7,7", 7, "-1", 14}, {"0,0", "7,7", 8, "0", 14}, {"0,0", "7,6", 7, "0", 13}, {"0,0", "7,7", 20, "0", 14},
		// a storm that disappears and one that appears, beside others
		{"0,0 7,7", "7,6 0,7", 3, "-1 0", 7}, {"0,0 7,7", "0,7 7,6", 3, "-1 1", 7}, {"7,7 0,0", "7,6 0,7", 3, "0 -1", 7}, {"0,0 7,7", "7,6 0,7", 4, "1 0", 8}, {"0,0 3,3 7,7", "7,7 0,1", 2, "1 -1 0", 3}, {"0,0 7,7", "7,7 3,3 0,1", 2, "2 0", 3},
		{"0,0 7,7", "3,0 4,7", 2, "0 1", 6}, {"0,0 7,7", "4,0 3,7", 2, "-1 -1", 8}, {"0,0 7,7", "3,0 3,7", 2, "0 -1", 7}, {"0,0 7,7", "4,0 4,7", 2, "-1 1", 7},
		// the nearest storm is not the best one
		{"3,0 4,0", "4,0 7,0", 20, "0 1", 4}, {"3,0 4,0", "2,0 3,0", 20, "0 1", 2}, {"0,0 2,0", "2,0 1,0", 20, "1 0", 1}, {"2,0 0,0", "1,0 2,4", 20, "1 0", 5}, {"2,0 0,0", "1,0 2,7", 3, "-1 0", 7}, {"3,0 2,0 1,0", "2,0 1,0 0,0", 20, "0 1 2", 3},
		{"1,0 2,0 3,0", "2,0 3,0 4,0", 1, "-1 0 1", 2}, {"1,0 2,0 3,0", "2,0 3,0 4,0", 2, "0 1 2", 3},
		// ties that the smaller index decides
		{"0,0 0,0", "0,0 0,0", 5, "0 1", 0}, {"1,1 1,1", "0,1 2,1", 5, "0 1", 2}, {"0,1 2,1", "1,1 1,1", 5, "0 1", 2}, {"0,0 1,1", "0,1 1,0", 5, "0 1", 2}, {"1,1 0,0", "1,0 0,1", 5, "0 1", 2}, {"1,1", "1,0 0,1 1,2 2,1", 5, "0", 16},
		{"2,2 2,2 2,2 2,2 2,2", "3,2 2,3 2,1 1,2 2,2", 5, "0 1 2 3 4", 4}, {"0,0 1,0", "2,0 3,0", 5, "0 1", 4}, {"0,0 1,0", "3,0 2,0", 5, "0 1", 4}, {"3,0 0,0", "1,0 2,0", 5, "1 0", 2},
		// ties that -1 decides: the storm that is left over, and a pair that costs as much as two penalties
		{"0,0 0,0", "0,0", 5, "-1 0", 5}, {"0,0 0,0 0,0", "0,0", 5, "-1 -1 0", 10}, {"0,0 0,0 0,0", "0,0 0,0", 5, "-1 0 1", 5}, {"0,0", "0,0 0,0", 5, "0", 5}, {"0,0 2,0", "1,0", 5, "-1 0", 6}, {"2,0 0,0", "1,0", 5, "-1 0", 6},
		{"0,0 3,0", "1,0", 5, "0 -1", 6}, {"0,0 0,0 0,0 0,0 0,0", "0,0 0,0 0,0 0,0", 1, "-1 0 1 2 3", 1}, {"0,0 4,0", "2,0 6,0", 1, "-1 -1", 4}, {"0,0 2,0", "2,0 4,0", 1, "-1 0", 2}, {"2,0 0,0", "2,0 4,0", 1, "0 -1", 2},
		{"2,0 4,0", "0,0 2,0", 1, "1 -1", 2}, {"0,0 0,2", "0,2 0,4", 1, "-1 0", 2}, {"0,0 0,3", "0,3 0,6", 3, "-1 0", 6}, {"0,0 1,0 2,0", "1,0 2,0 3,0", 1, "-1 0 1", 2}, {"0,0 0,0", "7,7 7,7", 0, "-1 -1", 0}, {"0,0 1,0", "1,0 0,0", 0, "-1 -1", 0},
		// all storms, as far apart as they can be
		{"0,0 0,0 0,0 0,0 0,0", "7,7 7,7 7,7 7,7 7,7", 20, "0 1 2 3 4", 70}, {"0,0 0,0 0,0 0,0 0,0", "7,7 7,7 7,7 7,7 7,7", 7, "-1 -1 -1 -1 -1", 70}, {"0,0 0,7 7,0 7,7 4,4", "4,4 7,7 7,0 0,7 0,0", 20, "4 3 2 1 0", 0},
		{"0,0 0,7 7,0 7,7 4,4", "7,7 7,0 0,7 0,0 4,3", 5, "3 2 1 0 4", 1}, {"0,0,64,9000 5,5,1,-9000", "0,0,1,-9000 5,5,64,9000", 5, "0 1", 0}, {"5,5,1,-9000 0,0,64,9000", "0,0,1,-9000 5,5,64,9000", 5, "1 0", 0},
	} {
		a, b := stormList(c.a), stormList(c.b)
		expectBest(t, a, b, c.penalty, indices(c.best), c.cost)
		checkLists(t, a, b, c.penalty)
	}
}

// everyStormList calls a function with all lists of up to so many storms at some places.
func everyStormList(places string, most int, call func(list []impl.Storm)) {
	at := stormList(places)
	numbers := []int{}
	for i := range at {
		numbers = append(numbers, i)
	}
	for size := range most + 1 {
		listsOver(numbers, size, func(chosen []int) {
			list := []impl.Storm{}
			for i, n := range chosen {
				list = append(list, impl.Storm{X: at[n].X, Y: at[n].Y, Size: 1 + (n+i)%3, Peak: n - 2*i})
			}
			call(list)
		})
	}
}

func TestEveryPairOfSmallLists(t *testing.T) {
	everyStormList("0,0 0,1 2,0 3,3", 2, func(a []impl.Storm) {
		everyStormList("0,0 1,0 2,2 7,7", 2, func(b []impl.Storm) {
			checkLists(t, a, b, 0, 1, 2, 3, 7, 20)
		})
	})
	everyStormList("0,0 1,0", 3, func(a []impl.Storm) {
		everyStormList("0,0 0,2 1,0", 3, func(b []impl.Storm) {
			checkLists(t, a, b, 0, 1, 2)
			checkLists(t, b, a, 1, 5)
		})
	})
	everyStormList("0,0 3,0", 4, func(a []impl.Storm) {
		everyStormList("1,0 2,1", 4, func(b []impl.Storm) {
			checkCheapest(t, a, b, 1)
			checkCheapest(t, a, b, 6)
		})
	})
}

// anyStorms returns up to most storms with X and Y below side.
func anyStorms(random *rand.Rand, most int, side int) []impl.Storm {
	list := make([]impl.Storm, random.IntN(most+1))
	for i := range list {
		list[i] = impl.Storm{X: random.IntN(side), Y: random.IntN(side), Size: random.IntN(64) + 1, Peak: random.IntN(18001) - 9000}
	}
	return list
}

func TestNoTrackingCostsLessThanTheBestOne(t *testing.T) {
	random := rand.New(rand.NewPCG(12, 2))
	pairs := map[int]int{}
	for range 4000 {
		side, penalty := random.IntN(8)+1, random.IntN(21)
		a, b := anyStorms(random, 4, side), anyStorms(random, 4, side)
		checkLists(t, a, b, penalty/(1+random.IntN(5)))
		checkCheapest(t, a, b, penalty)
		best, _, _ := impl.BestTracking(a, b, penalty)
		pairs[len(b)-len(plainNew(b, best))]++
	}
	for range 60 {
		a, b := anyStorms(random, 5, 8), anyStorms(random, 5, 8)
		checkLists(t, a, b, random.IntN(21))
	}
	for count := range 5 {
		if pairs[count] < 50 {
			t.Error("lists by the numbers of pairs of the best tracking:", pairs)
		}
	}
}

func TestBestTrackingThereAndBack(t *testing.T) {
	random := rand.New(rand.NewPCG(12, 3))
	for range 600 {
		a, b, penalty := anyStorms(random, 5, 5), anyStorms(random, 5, 5), random.IntN(8)
		_, there, _ := impl.BestTracking(a, b, penalty)
		_, back, ok := impl.BestTracking(b, a, penalty)
		expectNumber(t, "the cost back", back, ok, there)
		slices.Reverse(a)
		_, turned, ok := impl.BestTracking(a, b, penalty)
		expectNumber(t, "the cost of the turned list", turned, ok, there)
		_, still, ok := impl.BestTracking(a, a, penalty)
		expectNumber(t, "the cost of a list and itself", still, ok, 0)
	}
}

func TestTracksByHand(t *testing.T) {
	for _, c := range []struct {
		lists   string
		penalty int
		list    int
		storm   int
		lengths string
	}{
		// one list, two and six
		{"1,1", 5, 0, 0, "1"}, {"1,1 5,5 7,7", 5, 0, 0, "1 1 1"}, {"1,1/1,1", 5, 0, 0, "2/1"}, {"1,1/7,7", 5, 0, 0, "1/1"}, {"1,1 5,5/5,6", 5, 0, 1, "1 2/1"}, {"1,1/5,6 1,2", 5, 0, 0, "2/1 1"}, {"0,0/0,1/0,2/0,3/0,4/0,5", 1, 0, 0, "6/5/4/3/2/1"},
		{"0,0 7,7/7,7 0,0/0,0 7,7/7,7 0,0/0,0 7,7/7,7 0,0", 3, 0, 0, "6 6/5 5/4 4/3 3/2 2/1 1"}, {"0,0 7,7/7,7 0,0/0,0/0,1 7,7/7,7 0,2/7,7", 3, 0, 0, "5 2/1 4/3/2 3/2 1/1"}, {"0,0 7,7/7,7 0,0/7,6/0,1 7,5/7,4 0,2/7,3", 3, 0, 1, "2 6/5 1/4/2 3/2 1/1"},
		// lists without storms before, behind and between others
		{"/1,1", 5, 1, 0, "/1"}, {"1,1/", 5, 0, 0, "1/"}, {"1,1//1,1", 5, 0, 0, "1//1"}, {"//1,1/1,1//", 5, 2, 0, "//2/1//"}, {"1,1//1,1/1,1", 5, 2, 0, "1//2/1"}, {"1,1/1,1//1,1/1,1", 5, 0, 0, "2/1//2/1"}, {"1,1//1,1//1,1/1,2", 5, 4, 0, "1//1//2/1"}, {"/////7,7 3,3", 5, 5, 0, "/////1 1"},
		// tracks of the same length that begin in different lists, and in the same one
		{"0,0 7,7/7,6 0,7", 3, 0, 1, "1 2/1 1"}, {"0,0/0,0 7,7/7,7", 3, 0, 0, "2/1 2/1"}, {"0,0/7,7/7,7/0,0/0,0", 3, 1, 0, "1/2/1/2/1"}, {"0,0 4,4/0,0 4,4 7,0/7,0 0,7/7,0 0,7/0,7", 1, 1, 2, "2 2/1 1 3/2 3/1 2/1"},
		{"4,4/0,0 4,4 7,0/7,0 0,0/0,0 7,0", 1, 1, 0, "2/3 1 3/2 2/1 1"}, {"4,4/7,0 4,4 0,0/7,0 0,0/0,0 7,0", 1, 1, 0, "2/3 1 3/2 2/1 1"}, {"7,7 3,3/3,3 7,7", 5, 0, 0, "2 2/1 1"}, {"7,7 3,3/3,3", 5, 0, 1, "1 2/1"},
		// tracks that begin in a later list
		{"0,0/7,7/7,7", 3, 1, 0, "1/2/1"}, {"0,0/7,7 3,0/3,0", 1, 1, 1, "1/1 2/1"}, {"0,0/7,7 3,0/3,0", 3, 0, 0, "3/1 2/1"}, {"0,0/7,7 0,1/7,6/7,5", 3, 1, 0, "2/3 1/2/1"}, {"0,0/0,0/7,7/7,7/7,7", 3, 2, 0, "2/1/3/2/1"}, {"0,0 1,1/7,7/7,7/0,0/0,0/0,0", 3, 3, 0, "1 1/2/1/3/2/1"},
		// the penalty cuts the tracks
		{"0,0/0,4/0,7", 3, 0, 0, "3/2/1"}, {"0,0/0,4/0,7", 2, 1, 0, "1/2/1"}, {"0,0/0,4/0,7", 1, 0, 0, "1/1/1"}, {"0,0/0,0/0,0", 0, 0, 0, "1/1/1"}, {"0,0/7,7/0,0/7,7", 8, 0, 0, "4/3/2/1"}, {"0,0/7,7/0,0/7,7", 7, 0, 0, "1/1/1/1"}, {"0,0/7,7/0,0/7,7", 20, 0, 0, "4/3/2/1"},
	} {
		lists := stormLists(c.lists)
		list, storm, ok := impl.LongestTrack(lists, c.penalty)
		expectPair(t, "LongestTrack of "+c.lists, list, storm, ok, c.list, c.storm)
		for i, part := range strings.Split(c.lengths, "/") {
			for k, want := range indices(part) {
				length, ok := impl.TrackLength(lists, c.penalty, i, k)
				expectNumber(t, "TrackLength of "+c.lists+" in "+strconv.Itoa(i)+" from "+strconv.Itoa(k), length, ok, want)
			}
		}
		checkTracks(t, lists, c.penalty)
	}
}

func TestNumbersOfLists(t *testing.T) {
	for count := range 10 {
		lists := slices.Repeat([][]impl.Storm{someStorms(3)}, count)
		if count < 1 || count > 6 {
			expectNoTracks(t, "lists of another number", lists, 4)
			continue
		}
		checkTracks(t, lists, 4)
		length, ok := impl.TrackLength(lists, 4, 0, 2)
		expectNumber(t, "TrackLength", length, ok, count)
		expectNoTracks(t, "lists without storms", make([][]impl.Storm, count), 4)
		expectNoTracks(t, "lists without storms, a penalty of 0", slices.Repeat([][]impl.Storm{{}}, count), 0)
		for at := range count {
			single := make([][]impl.Storm, count)
			single[at] = someStorms(2)
			checkTracks(t, single, 4)
		}
	}
	for at := range 7 {
		lists := make([][]impl.Storm, 7)
		lists[at] = someStorms(1)
		expectNoTracks(t, "seven lists with one storm", lists, 4)
	}
	expectNoTracks(t, "seven lists without storms", make([][]impl.Storm, 7), 4)
	list, storm, ok := impl.LongestTrack(make([][]impl.Storm, 1<<16+1), 4)
	expectNoPair(t, "LongestTrack of very many lists", list, storm, ok)
}

func TestTracksFromNoStorm(t *testing.T) {
	lists := [][]impl.Storm{someStorms(2), someStorms(5), nil, someStorms(1), someStorms(3), someStorms(4)}
	for _, count := range []int{1, 2, 4, 6} {
		for _, far := range append(farNumbers(), -1, -2, -6, 6, 7, 256, 257, gone) {
			for near := range 6 {
				for _, place := range [][2]int{{far, near}, {near, far}, {far, far}} {
					length, ok := impl.TrackLength(lists[:count], 4, place[0], place[1])
					expectNoNumber(t, "TrackLength from no storm", length, ok)
				}
			}
		}
		checkTracks(t, lists[:count], 4)
	}
}

func TestTracksRejectLists(t *testing.T) {
	bad := badStorms()
	for count := 1; count <= 6; count++ {
		for at := range count {
			for _, size := range []int{0, 1, 3} {
				lists := slices.Repeat([][]impl.Storm{someStorms(size)}, count)
				lists[at] = someStorms(6)
				expectNoTracks(t, "a list of too many storms", lists, 4)
				for i := range 5 {
					lists[at] = someStorms(5)
					lists[at][i] = bad[(count*50+at*11+size*3+i)%len(bad)]
					expectNoTracks(t, "a list with a bad storm", lists, 4)
				}
			}
		}
	}
	for _, storm := range bad {
		expectNoTracks(t, "a bad storm alone", [][]impl.Storm{{storm}}, 4)
		expectNoTracks(t, "a bad storm behind an empty list", [][]impl.Storm{someStorms(1), nil, {storm}}, 4)
	}
}

func TestTracksOfEverySmallList(t *testing.T) {
	everyStormList("0,0 2,0", 2, func(a []impl.Storm) {
		everyStormList("1,0 3,0", 2, func(b []impl.Storm) {
			everyStormList("0,0 2,1", 2, func(c []impl.Storm) {
				checkTracks(t, [][]impl.Storm{a, b, c}, 1)
				checkTracks(t, [][]impl.Storm{a, b, c}, 2)
				checkTracks(t, [][]impl.Storm{c, a, b, c}, 1)
			})
		})
	})
	for count := 1; count <= 6; count++ {
		listsOver([]int{0, 1, 2, 3}, count, func(chosen []int) {
			lists := [][]impl.Storm{}
			for _, n := range chosen {
				lists = append(lists, stormLists("/0,0/6,6/0,1 6,5")[n])
			}
			checkTracks(t, lists, 3)
		})
	}
}

func TestLongestTracks(t *testing.T) {
	random := rand.New(rand.NewPCG(12, 4))
	begins := map[[2]int]int{}
	lengths := map[int]int{}
	for range 1500 {
		side, penalty := random.IntN(8)+1, random.IntN(7)
		lists := make([][]impl.Storm, random.IntN(6)+1)
		for i := range lists {
			lists[i] = anyStorms(random, 1+random.IntN(4), side)
		}
		checkTracks(t, lists, penalty)
		if list, storm, ok := impl.LongestTrack(lists, penalty); ok {
			begins[[2]int{list, storm}]++
			length, _ := impl.TrackLength(lists, penalty, list, storm)
			lengths[length]++
		}
	}
	for _, begin := range [][2]int{{0, 0}, {0, 3}, {1, 0}, {2, 1}, {3, 0}, {4, 0}} {
		if begins[begin] == 0 {
			t.Error("longest tracks by their beginnings:", begins)
		}
	}
	if len(lengths) != 6 {
		t.Error("longest tracks by their lengths:", lengths)
	}
}

func TestTracksOfStormsOfFields(t *testing.T) {
	lists := [][]impl.Storm{}
	for _, s := range []string{"9 0 0 0 0/0 0 0 0 3/0 0 0 0 3", "7 8 0 0 0/0 0 0 0 0/0 0 0 0 0", "0 8 9 0 5/0 0 0 0 0/2 0 0 0 0", "0 0 9 0 0/0 0 0 0 6/2 2 0 0 0", ". 0 . . 0/1 0 0 0 6/0 0 0 0 0"} {
		storms, ok := impl.StormsOf(grid(s), 0)
		expectElements(t, "StormsOf", storms, ok, plainStorms(grid(s), 0))
		lists = append(lists, storms)
	}
	list, storm, ok := impl.LongestTrack(lists, 2)
	expectPair(t, "LongestTrack", list, storm, ok, 0, 0)
	for _, c := range [][3]int{{0, 0, 4}, {0, 1, 1}, {1, 0, 3}, {2, 0, 2}, {2, 1, 3}, {2, 2, 3}, {3, 0, 1}, {3, 1, 2}, {3, 2, 2}, {4, 0, 1}, {4, 1, 1}} {
		length, ok := impl.TrackLength(lists, 2, c[0], c[1])
		expectNumber(t, "TrackLength", length, ok, c[2])
	}
	checkTracks(t, lists, 2)
}

// roomyStorms returns a list of storms with more of them behind its length.
func roomyStorms(list []impl.Storm) ([]impl.Storm, []impl.Storm) {
	room := append(slices.Clone(list), impl.Storm{X: 1, Y: 1, Size: 1}, impl.Storm{X: -1})
	return room[:len(list)], room
}

// ownResult runs a call twice, and returns the first result, which stays the same while the
// second one is changed.
func ownResult[E comparable](t *testing.T, name string, run func() ([]E, bool)) []E {
	t.Helper()
	made, ok := run()
	second, okSecond := run()
	if !ok || !okSecond || !slices.Equal(made, second) {
		t.Errorf("%s = %v and then %v", name, made, second)
	}
	if shareElements(made, second) {
		t.Errorf("two results of %s share memory", name)
	}
	want := slices.Clone(made)
	clear(second[:cap(second)])
	if third, _ := run(); !slices.Equal(made, want) || !slices.Equal(third, want) {
		t.Errorf("%s changes with another result: %v and %v, not %v", name, made, third, want)
	}
	return made
}

func TestStormsAndMemory(t *testing.T) {
	for _, s := range []string{"5", "0", ".", "9 8 0 0/0 0 0 7/5 0 7 9", "1 0 1/0 1 0/1 0 1"} {
		f, room := roomy(grid(s))
		before := slices.Clone(room)
		storms := ownResult(t, "StormsOf", func() ([]impl.Storm, bool) { return impl.StormsOf(f, 0) })
		for _, limit := range append(farNumbers(), -1, 4, 9000) {
			impl.StormsOf(f, limit)
		}
		if !slices.Equal(room, before) {
			t.Errorf("the field is modified: %v from %v", room, before)
		}
		clear(room)
		expectElements(t, "StormsOf after the field is changed", storms, true, plainStorms(grid(s), 0))
	}
	full, room := roomy(grid("1 0 1 0 1 0/0 1 0 1 0 1"))
	before := slices.Clone(room)
	expectNoStorms(t, full, 0)
	if !slices.Equal(room, before) {
		t.Errorf("the field with too many storms is modified: %v from %v", room, before)
	}
}

func TestTrackingsAndMemory(t *testing.T) {
	for _, c := range [][3]string{
		{"", "", ""}, {"1,1,2,3", "", "-1"}, {"", "1,1,2,3 4,4", ""}, {"1,1,2,3", "1,2,3,4", "0"}, {"0,0,2,9 5,5,1,4", "5,6,3,6 1,0,2,7", "1 0"}, {"0,0,2,9 5,5,1,4", "5,6,3,6 1,0,2,7", "-1 0"},
		{"0,0 1,1 2,2 3,3 4,4", "4,4,2,2 3,3,2,2 2,2,2,2 1,1,2,2 0,0,2,2", "4 3 2 1 0"}, {"0,0 1,1 2,2 3,3 4,4", "4,4,2,2 3,3,2,2 2,2,2,2 1,1,2,2 0,0,2,2", "-1 -1 -1 -1 -1"},
	} {
		a, roomA := roomyStorms(stormList(c[0]))
		b, roomB := roomyStorms(stormList(c[1]))
		numbers := append(indices(c[2]), 0, -1, 12345)
		tracking := numbers[:len(a)]
		best := ownResult(t, "BestTracking", func() ([]int, bool) {
			list, _, ok := impl.BestTracking(a, b, 3)
			return list, ok
		})
		fresh := ownResult(t, "NewStorms", func() ([]int, bool) { return impl.NewStorms(a, b, tracking) })
		growth := ownResult(t, "GrowthOf", func() ([][2]int, bool) { return impl.GrowthOf(a, b, tracking) })
		expectCost(t, a, b, tracking, 3, plainCost(a, b, tracking, 3))
		if shareElements(fresh, numbers) || shareElements(best, numbers) || shareElements(best, fresh) {
			t.Error("a result shares memory with the tracking or with another result")
		}
		beforeA, beforeB := append(stormList(c[0]), impl.Storm{X: 1, Y: 1, Size: 1}, impl.Storm{X: -1}), append(stormList(c[1]), impl.Storm{X: 1, Y: 1, Size: 1}, impl.Storm{X: -1})
		if !slices.Equal(roomA, beforeA) || !slices.Equal(roomB, beforeB) || !slices.Equal(numbers, append(indices(c[2]), 0, -1, 12345)) {
			t.Errorf("the arguments are modified: %v, %v and %v", roomA, roomB, numbers)
		}
		clear(roomA)
		clear(roomB)
		clear(numbers)
		wantBest, _ := plainBest(stormList(c[0]), stormList(c[1]), 3)
		expectElements(t, "BestTracking after the lists are changed", best, true, wantBest)
		expectElements(t, "NewStorms after the lists are changed", fresh, true, plainNew(stormList(c[1]), indices(c[2])))
		expectElements(t, "GrowthOf after the lists are changed", growth, true, plainGrowth(stormList(c[0]), stormList(c[1]), indices(c[2])))
	}
}

func TestStormListsAreLeft(t *testing.T) {
	good, room := roomyStorms(someStorms(4))
	bad, badRoom := roomyStorms(badStorms()[:3])
	tracking := []int{2, -1, 0, 5, 1}
	before, badBefore, trackingBefore := slices.Clone(room), slices.Clone(badRoom), slices.Clone(tracking)
	for _, a := range [][]impl.Storm{good, bad, room, good[:2], nil} {
		for _, b := range [][]impl.Storm{good, bad, badRoom, good[1:], nil} {
			for _, penalty := range []int{-1, 0, 3, 20, 21} {
				for end := range tracking {
					impl.TrackingCost(a, b, tracking[:end], penalty)
					impl.NewStorms(a, b, tracking[:end])
					impl.GrowthOf(a, b, tracking[:end])
				}
				impl.BestTracking(a, b, penalty)
				lists := [][]impl.Storm{a, b, good, a, nil, b, bad, a}
				for count := range lists {
					impl.LongestTrack(lists[:count], penalty)
					impl.TrackLength(lists[:count], penalty, 1, 0)
				}
				for i, list := range [][]impl.Storm{a, b, good, a, nil, b, bad, a} {
					if len(list) != len(lists[i]) || len(list) > 0 && &list[0] != &lists[i][0] {
						t.Errorf("list %d is modified: %v", i, lists[i])
					}
				}
			}
		}
	}
	if !slices.Equal(room, before) || !slices.Equal(badRoom, badBefore) || !slices.Equal(tracking, trackingBefore) {
		t.Errorf("storms are modified: %v, %v and %v", room, badRoom, tracking)
	}
}

func TestTrackingsOfAListAndItself(t *testing.T) {
	list, room := roomyStorms(someStorms(5))
	before := slices.Clone(room)
	checkLists(t, list, list, 0, 4)
	checkTracks(t, [][]impl.Storm{list, list, list[:3], list[2:], list, list}, 4)
	expectBest(t, list, list, 4, []int{0, 1, 2, 3, 4}, 0)
	if !slices.Equal(room, before) {
		t.Errorf("the list is modified: %v from %v", room, before)
	}
}

func TestStormsBehindTheLengthAreNotRead(t *testing.T) {
	room := append(someStorms(4), impl.Storm{X: -1}, impl.Storm{X: 9})
	checkLists(t, room[:2], room[2:4], 3)
	expectNoLists(t, "a bad storm within the length", room[:5], room[:2])
	tracking := []int{0, 1, 2, 1, -2}
	expectNoTracking(t, "a tracking completed from behind its length", room[:3], room[:4], tracking[:2])
	checkTracking(t, room[:3], room[:4], tracking[:3], 3)
	lists := [][]impl.Storm{room[:2], room[1:3], room[:5], room[4:]}
	checkTracks(t, lists[:2], 3)
	length, ok := impl.TrackLength(lists[:2], 3, 2, 0)
	expectNoNumber(t, "TrackLength from a list behind the length", length, ok)
	length, ok = impl.TrackLength(lists[:2], 3, 0, 2)
	expectNoNumber(t, "TrackLength from a storm behind the length", length, ok)
}
