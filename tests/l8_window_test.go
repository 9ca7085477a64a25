package tests

import (
	"math"
	"slices"
	"strings"
	"testing"

	"loop.example/g01335/impl"
)

func visit(from int, stay int) impl.Visit {
	return impl.Visit{From: from, Stay: stay}
}

// visits takes From and Stay of each visit.
func visits(numbers ...int) []impl.Visit {
	var list []impl.Visit
	for k := 0; k < len(numbers); k += 2 {
		list = append(list, visit(numbers[k], numbers[k+1]))
	}
	return list
}

// threeVisits are those of the document's example, the others are at the limits.
var (
	threeVisits = visits(0, 3, 2, 4, 8, 1)
	shortVisit  = visits(5, 0)
	longVisit   = visits(0, 200)
	lateVisit   = visits(200, 200)
	sixVisits   = visits(0, 200, 200, 200, 200, 0, 0, 0, 100, 100, 199, 1)
	inARow      = visits(0, 2, 2, 3, 5, 1, 6, 0)
	apartVisits = visits(9, 1, 6, 1, 3, 1, 0, 1)
)

// badVisits are beside each limit, and far from it.
var badVisits = visits(-1, 0, -1, 3, 201, 0, 201, 3, 0, -1, 3, -1, 0, 201, 3, 201, 201, 201, -3, -3, -200, 200, 400, -200, math.MaxInt, 0, math.MinInt, 0,
	0, math.MaxInt, 0, math.MinInt, math.MaxInt, math.MaxInt, math.MinInt, math.MinInt, math.MinInt, math.MaxInt)

// badSpans are no numbers of moments, nor lengths of a span.
var badSpans = []int{math.MinInt, -200, -1, 0, 201, 400, math.MaxInt}

// badStays are no stays, nor arrivals.
var badStays = []int{math.MinInt, -200, -1, 201, 400, math.MaxInt}

// noVisits are lists that are no visits.
func noVisits() [][]impl.Visit {
	lists := [][]impl.Visit{nil, {}, make([]impl.Visit, 7), slices.Concat(sixVisits, shortVisit), make([]impl.Visit, 100000)}
	for _, bad := range badVisits {
		lists = append(lists, []impl.Visit{bad}, []impl.Visit{bad, visit(2, 4)}, []impl.Visit{visit(0, 3), bad}, append(visits(0, 1, 0, 1, 0, 1, 0, 1, 0, 1), bad))
	}
	return lists
}

func wantVisits(t *testing.T, what string, got []impl.Visit, ok bool, want []impl.Visit) {
	t.Helper()
	if ok != (want != nil) || !slices.Equal(got, want) {
		t.Errorf("%s: got %v, %v, not %v", what, got, ok, want)
	}
}

func checkWholeTimes(t *testing.T, moments int, a int, b int, count int, chance part) {
	t.Helper()
	n, ok := impl.CountTogether(moments, a, b)
	wantInt(t, "CountTogether", n, ok, count)
	num, den, ok := impl.ChanceTogether(moments, a, b)
	wantPart(t, "ChanceTogether", num, den, ok, chance)
}

func TestCountTogether(t *testing.T) {
	cases := []struct {
		moments, a, b, count int
		chance               part
	}{
		{60, 15, 15, 1620, part{9, 20}},
		// Stays of 0 meet just if both come at one time.
		{60, 0, 0, 60, part{1, 60}},
		{60, 0, 1, 119, part{119, 3600}},
		{60, 0, 15, 840, part{7, 30}},
		{60, 0, 59, 1830, part{61, 120}},
		{60, 0, 60, 1830, part{61, 120}},
		{60, 0, 200, 1830, part{61, 120}},
		// Stays as long as the time between the first moment and the last one, and longer.
		{60, 58, 58, 3598, part{1799, 1800}},
		{60, 58, 59, 3599, part{3599, 3600}},
		{60, 59, 59, 3600, part{1, 1}},
		{60, 60, 60, 3600, part{1, 1}},
		{60, 200, 200, 3600, part{1, 1}},
		{1, 0, 0, 1, part{1, 1}},
		{1, 200, 0, 1, part{1, 1}},
		{2, 0, 0, 2, part{1, 2}},
		{2, 1, 0, 3, part{3, 4}},
		{2, 1, 1, 4, part{1, 1}},
		{3, 1, 0, 5, part{5, 9}},
		{3, 1, 1, 7, part{7, 9}},
		{200, 0, 0, 200, part{1, 200}},
		{200, 198, 198, 39998, part{19999, 20000}},
		{200, 199, 199, 40000, part{1, 1}},
		{200, 200, 200, 40000, part{1, 1}},
		{200, 100, 50, 23875, part{191, 320}},
	}
	for _, c := range cases {
		checkWholeTimes(t, c.moments, c.a, c.b, c.count, c.chance)
		checkWholeTimes(t, c.moments, c.b, c.a, c.count, c.chance)
	}
	for _, moments := range badSpans {
		checkWholeTimes(t, moments, 0, 0, fails, none)
	}
	for _, stay := range badStays {
		checkWholeTimes(t, 60, stay, 15, fails, none)
		checkWholeTimes(t, 60, 15, stay, fails, none)
	}
}

func TestChancesOfTimesThatAreNotWhole(t *testing.T) {
	cases := []struct {
		long, a, b int
		chance     part
	}{
		{60, 15, 15, part{7, 16}},
		// Who does not stay meets nobody, but for one who stays.
		{60, 0, 0, part{0, 1}},
		{60, 0, 15, part{7, 32}},
		{60, 0, 60, part{1, 2}},
		{60, 30, 30, part{3, 4}},
		{60, 1, 1, part{119, 3600}},
		// Stays as long as the span.
		{60, 60, 60, part{1, 1}},
		{60, 60, 30, part{7, 8}},
		{60, 59, 59, part{3599, 3600}},
		{60, 61, 61, none},
		{60, 61, 60, none},
		{60, 200, 15, none},
		{1, 0, 0, part{0, 1}},
		{1, 0, 1, part{1, 2}},
		{1, 1, 1, part{1, 1}},
		{1, 2, 0, none},
		{3, 1, 2, part{13, 18}},
		{200, 0, 0, part{0, 1}},
		{200, 1, 0, part{399, 80000}},
		{200, 200, 200, part{1, 1}},
		{200, 199, 200, part{79999, 80000}},
		{200, 201, 0, none},
	}
	for _, c := range cases {
		checkChance(t, c.long, c.a, c.b, c.chance)
		checkChance(t, c.long, c.b, c.a, c.chance)
	}
	for _, long := range badSpans {
		checkChance(t, long, 0, 0, none)
		checkChance(t, long, long, long, none)
	}
	for _, stay := range badStays {
		checkChance(t, 60, stay, 15, none)
		checkChance(t, 60, 15, stay, none)
		checkChance(t, 200, stay, stay, none)
	}
}

func checkChance(t *testing.T, long int, a int, b int, chance part) {
	t.Helper()
	num, den, ok := impl.ChanceOfStays(long, a, b)
	wantPart(t, "ChanceOfStays", num, den, ok, chance)
	if a == b {
		num, den, ok = impl.EvenChance(long, a)
		wantPart(t, "EvenChance", num, den, ok, chance)
	}
}

func TestLeastStay(t *testing.T) {
	cases := []struct {
		long, num, den, want int
	}{
		{60, 1, 2, 18},
		{60, 500, 1000, 18},
		// Chances that a stay has just so.
		{60, 7, 16, 15},
		{60, 438, 1000, 16},
		{60, 3, 4, 30},
		{60, 751, 1000, 31},
		{60, 0, 1, 0},
		{60, 0, 1000, 0},
		{60, 1, 1000, 1},
		{60, 1, 1, 60},
		{60, 1000, 1000, 60},
		{60, 999, 1000, 59},
		// Chances that no stay reaches.
		{60, 1000, 999, fails},
		{60, 2, 1, fails},
		{60, 1000, 1, fails},
		{1, 0, 1, 0},
		{1, 1, 1000, 1},
		{1, 1, 1, 1},
		{1, 1000, 999, fails},
		{200, 1, 1000, 1},
		{200, 999, 1000, 194},
		{200, 1, 1, 200},
		{200, 1, 2, 59},
		{60, -1, 2, fails},
		{60, 1001, 1000, fails},
		{60, math.MinInt, 2, fails},
		{60, math.MaxInt, 2, fails},
		{60, 0, 0, fails},
		{60, 1, 0, fails},
		{60, 1, -2, fails},
		{60, -1, -2, fails},
		{60, 0, 1001, fails},
		{60, 1, 1001, fails},
		{60, 1, math.MaxInt, fails},
		{60, 1, math.MinInt, fails},
	}
	for _, c := range cases {
		n, ok := impl.LeastStay(c.long, c.num, c.den)
		wantInt(t, "LeastStay", n, ok, c.want)
	}
	for _, long := range badSpans {
		n, ok := impl.LeastStay(long, 0, 1)
		wantInt(t, "LeastStay", n, ok, fails)
	}
}

func TestCountAllWithin(t *testing.T) {
	cases := []struct {
		moments, people, stay, want int
	}{
		// Two are those of CountTogether.
		{50, 2, 15, 1310},
		{3, 2, 1, 7},
		{3, 3, 1, 15},
		{3, 3, 0, 3},
		{3, 3, 2, 27},
		{4, 3, 2, 46},
		{2, 6, 0, 2},
		{2, 6, 1, 64},
		// One is always all there are.
		{50, 1, 0, 50},
		{50, 1, 50, 50},
		{1, 1, 0, 1},
		{1, 6, 0, 1},
		{1, 6, 50, 1},
		{50, 6, 0, 50},
		{50, 6, 1, 49*64 - 48},
		// All but those lists in which somebody comes at the first moment, and somebody at the last one.
		{50, 6, 48, 15625000000 - (15625000000 - 2*13841287201 + 12230590464)},
		// Stays as long as the time between the first moment and the last one, and longer.
		{50, 6, 49, 15625000000},
		{50, 6, 50, 15625000000},
		{10, 6, 50, 1000000},
		{10, 6, 9, 1000000},
		{51, 2, 1, fails},
		{200, 2, 1, fails},
		{0, 2, 1, fails},
		{-1, 2, 1, fails},
		{math.MaxInt, 2, 1, fails},
		{math.MinInt, 2, 1, fails},
		{50, 0, 1, fails},
		{50, -1, 1, fails},
		{50, 7, 1, fails},
		{50, math.MaxInt, 1, fails},
		{50, math.MinInt, 1, fails},
		{50, 2, -1, fails},
		{50, 2, 51, fails},
		{3, 2, 51, fails},
		{50, 2, math.MaxInt, fails},
		{50, 2, math.MinInt, fails},
	}
	for _, c := range cases {
		n, ok := impl.CountAllWithin(c.moments, c.people, c.stay)
		wantInt(t, "CountAllWithin", n, ok, c.want)
	}
}

func TestMeanApart(t *testing.T) {
	cases := []struct {
		moments int
		want    part
	}{
		{3, part{8, 9}},
		{1, part{0, 1}},
		{2, part{1, 2}},
		{4, part{5, 4}},
		{5, part{8, 5}},
		{60, part{3599, 180}},
		{199, part{13200, 199}},
		{200, part{13333, 200}},
	}
	for _, c := range cases {
		num, den, ok := impl.MeanApart(c.moments)
		wantPart(t, "MeanApart", num, den, ok, c.want)
	}
	for _, moments := range badSpans {
		num, den, ok := impl.MeanApart(moments)
		wantPart(t, "MeanApart", num, den, ok, none)
	}
}

func TestCountApart(t *testing.T) {
	cases := []struct {
		moments, apart, want int
	}{
		{3, 0, 3},
		{3, 1, 4},
		{3, 2, 2},
		{3, 3, 0},
		{3, 200, 0},
		{1, 0, 1},
		{1, 1, 0},
		{60, 15, 90},
		{60, 59, 2},
		{60, 60, 0},
		{200, 0, 200},
		{200, 1, 398},
		{200, 199, 2},
		{200, 200, 0},
	}
	for _, c := range cases {
		n, ok := impl.CountApart(c.moments, c.apart)
		wantInt(t, "CountApart", n, ok, c.want)
	}
	for _, moments := range badSpans {
		n, ok := impl.CountApart(moments, 0)
		wantInt(t, "CountApart", n, ok, fails)
	}
	for _, apart := range badStays {
		n, ok := impl.CountApart(60, apart)
		wantInt(t, "CountApart", n, ok, fails)
	}
}

func TestAreVisits(t *testing.T) {
	for _, list := range [][]impl.Visit{threeVisits, shortVisit, longVisit, lateVisit, sixVisits, inARow, apartVisits, visits(0, 0), visits(200, 0), make([]impl.Visit, 6)} {
		if !impl.AreVisits(list) {
			t.Errorf("%v are visits", list)
		}
	}
	for _, list := range noVisits() {
		if impl.AreVisits(list) {
			t.Errorf("%.7v are no visits", list)
		}
	}
}

func TestWhoIsThere(t *testing.T) {
	cases := []struct {
		visits []impl.Visit
		time   int
		want   []int
	}{
		{threeVisits, 0, []int{0}},
		{threeVisits, 1, []int{0}},
		{threeVisits, 2, []int{0, 1}},
		{threeVisits, 3, []int{0, 1}},
		{threeVisits, 4, []int{1}},
		{threeVisits, 6, []int{1}},
		{threeVisits, 7, []int{}},
		{threeVisits, 8, []int{2}},
		{threeVisits, 9, []int{2}},
		{threeVisits, 10, []int{}},
		{threeVisits, 1000, []int{}},
		// A visit of no time is there at its time.
		{shortVisit, 4, []int{}},
		{shortVisit, 5, []int{0}},
		{shortVisit, 6, []int{}},
		{longVisit, 0, []int{0}},
		{longVisit, 200, []int{0}},
		{longVisit, 201, []int{}},
		{lateVisit, 199, []int{}},
		{lateVisit, 200, []int{0}},
		{lateVisit, 400, []int{0}},
		{lateVisit, 401, []int{}},
		{sixVisits, 0, []int{0, 3}},
		{sixVisits, 100, []int{0, 4}},
		{sixVisits, 200, []int{0, 1, 2, 4, 5}},
		{sixVisits, 201, []int{1}},
		{inARow, 2, []int{0, 1}},
		{inARow, 5, []int{1, 2}},
		{inARow, 6, []int{2, 3}},
		{threeVisits, -1, nil},
		{threeVisits, 1001, nil},
		{threeVisits, math.MaxInt, nil},
		{threeVisits, math.MinInt, nil},
	}
	for _, c := range cases {
		there, ok := impl.WhoIsThere(c.visits, c.time)
		wantNumbers(t, "WhoIsThere", there, ok, c.want)
	}
	for _, list := range noVisits() {
		there, ok := impl.WhoIsThere(list, 0)
		wantNumbers(t, "WhoIsThere", there, ok, nil)
	}
}

func TestPairsMeeting(t *testing.T) {
	cases := []struct {
		visits []impl.Visit
		want   [][]int
	}{
		{threeVisits, [][]int{{0, 1}}},
		{visits(8, 1, 2, 4, 0, 3), [][]int{{1, 2}}},
		{visits(2, 4, 8, 1, 0, 3), [][]int{{0, 2}}},
		// One visit alone meets nobody.
		{shortVisit, [][]int{}},
		{longVisit, [][]int{}},
		// One leaves just when the other one comes.
		{inARow, [][]int{{0, 1}, {1, 2}, {2, 3}}},
		{visits(6, 0, 5, 1, 2, 3, 0, 2), [][]int{{0, 1}, {1, 2}, {2, 3}}},
		{apartVisits, [][]int{}},
		{visits(0, 2, 3, 2), [][]int{}},
		{visits(5, 0, 5, 0), [][]int{{0, 1}}},
		{visits(5, 0, 6, 0), [][]int{}},
		// A short one is within a longer one.
		{visits(0, 10, 5, 0), [][]int{{0, 1}}},
		{visits(5, 0, 0, 10), [][]int{{0, 1}}},
		{visits(3, 4, 0, 200, 100, 0), [][]int{{0, 1}, {1, 2}}},
		{visits(0, 200, 200, 200), [][]int{{0, 1}}},
		{visits(0, 199, 200, 200), [][]int{}},
		{sixVisits, [][]int{{0, 1}, {0, 2}, {0, 3}, {0, 4}, {0, 5}, {1, 2}, {1, 4}, {1, 5}, {2, 4}, {2, 5}, {4, 5}}},
	}
	for _, c := range cases {
		pairs, ok := impl.PairsMeeting(c.visits)
		wantRows(t, "PairsMeeting", pairs, ok, c.want)
	}
	for _, list := range noVisits() {
		pairs, ok := impl.PairsMeeting(list)
		wantRows(t, "PairsMeeting", pairs, ok, nil)
	}
}

func TestAllThere(t *testing.T) {
	cases := []struct {
		visits []impl.Visit
		want   pair
	}{
		{threeVisits, noPair},
		{threeVisits[:2], pair{2, 3}},
		{threeVisits[:1], pair{0, 3}},
		{threeVisits[1:], noPair},
		{shortVisit, pair{5, 5}},
		{longVisit, pair{0, 200}},
		{lateVisit, pair{200, 400}},
		{visits(0, 2, 2, 3), pair{2, 2}},
		{visits(2, 3, 0, 2), pair{2, 2}},
		{visits(0, 2, 3, 3), noPair},
		{inARow, noPair},
		{sixVisits, noPair},
		{visits(0, 200, 200, 200), pair{200, 200}},
		{visits(0, 0, 0, 0), pair{0, 0}},
		// Each two of them meet, and so all do.
		{visits(0, 10, 5, 10, 8, 1, 9, 100), pair{9, 9}},
		{visits(0, 10, 5, 10, 3, 6, 1, 100), pair{5, 9}},
		{slices.Repeat(lateVisit, 6), pair{200, 400}},
	}
	for _, c := range cases {
		first, last, ok := impl.AllThere(c.visits)
		wantPair(t, "AllThere", first, last, ok, c.want)
	}
	for _, list := range noVisits() {
		first, last, ok := impl.AllThere(list)
		wantPair(t, "AllThere", first, last, ok, noPair)
	}
}

func TestMostTogether(t *testing.T) {
	cases := []struct {
		visits []impl.Visit
		want   pair
	}{
		{threeVisits, pair{2, 2}},
		{shortVisit, pair{1, 5}},
		{longVisit, pair{1, 0}},
		{lateVisit, pair{1, 200}},
		// The first one of several times with the greatest number.
		{apartVisits, pair{1, 0}},
		{inARow, pair{2, 2}},
		{visits(6, 0, 5, 1, 2, 3, 0, 2), pair{2, 2}},
		{visits(50, 1, 50, 2, 20, 0, 10, 10), pair{2, 20}},
		{visits(0, 9, 2, 1, 5, 1, 2, 0, 5, 0), pair{3, 2}},
		{visits(0, 9, 5, 1, 2, 1, 5, 0, 2, 0), pair{3, 2}},
		{sixVisits, pair{5, 200}},
		{visits(5, 0, 5, 0), pair{2, 5}},
		{slices.Repeat(lateVisit, 6), pair{6, 200}},
		{make([]impl.Visit, 6), pair{6, 0}},
	}
	for _, c := range cases {
		most, first, ok := impl.MostTogether(c.visits)
		wantPair(t, "MostTogether", most, first, ok, c.want)
	}
	for _, list := range noVisits() {
		most, first, ok := impl.MostTogether(list)
		wantPair(t, "MostTogether", most, first, ok, noPair)
	}
}

func TestEmptyTimes(t *testing.T) {
	cases := []struct {
		visits []impl.Visit
		until  int
		want   [][]int
	}{
		{threeVisits, 10, [][]int{{7, 7}, {10, 10}}},
		{threeVisits, 12, [][]int{{7, 7}, {10, 12}}},
		{threeVisits, 9, [][]int{{7, 7}}},
		{threeVisits, 7, [][]int{{7, 7}}},
		{threeVisits, 6, [][]int{}},
		{threeVisits, 0, [][]int{}},
		{threeVisits, 1000, [][]int{{7, 7}, {10, 1000}}},
		{visits(8, 1, 2, 4, 0, 3), 10, [][]int{{7, 7}, {10, 10}}},
		{shortVisit, 0, [][]int{{0, 0}}},
		{shortVisit, 4, [][]int{{0, 4}}},
		{shortVisit, 5, [][]int{{0, 4}}},
		{shortVisit, 6, [][]int{{0, 4}, {6, 6}}},
		{shortVisit, 1000, [][]int{{0, 4}, {6, 1000}}},
		{longVisit, 200, [][]int{}},
		{longVisit, 201, [][]int{{201, 201}}},
		// Nobody is there at any time that is asked.
		{lateVisit, 0, [][]int{{0, 0}}},
		{lateVisit, 199, [][]int{{0, 199}}},
		{lateVisit, 200, [][]int{{0, 199}}},
		{lateVisit, 400, [][]int{{0, 199}}},
		{lateVisit, 401, [][]int{{0, 199}, {401, 401}}},
		{sixVisits, 400, [][]int{}},
		{sixVisits, 1000, [][]int{{401, 1000}}},
		{inARow, 8, [][]int{{7, 8}}},
		// Between one who leaves and one who comes at the next time there is none.
		{visits(0, 2, 3, 2), 5, [][]int{}},
		{visits(3, 2, 0, 2), 6, [][]int{{6, 6}}},
		{visits(0, 2, 4, 2), 6, [][]int{{3, 3}}},
		{apartVisits, 12, [][]int{{2, 2}, {5, 5}, {8, 8}, {11, 12}}},
		{visits(1, 0, 3, 0, 5, 0, 7, 0, 9, 0, 11, 0), 12, [][]int{{0, 0}, {2, 2}, {4, 4}, {6, 6}, {8, 8}, {10, 10}, {12, 12}}},
		{threeVisits, -1, nil},
		{threeVisits, 1001, nil},
		{threeVisits, math.MaxInt, nil},
		{threeVisits, math.MinInt, nil},
	}
	for _, c := range cases {
		rows, ok := impl.EmptyTimes(c.visits, c.until)
		wantRows(t, "EmptyTimes", rows, ok, c.want)
	}
	for _, list := range noVisits() {
		rows, ok := impl.EmptyTimes(list, 10)
		wantRows(t, "EmptyTimes", rows, ok, nil)
	}
}

func TestFewestGuides(t *testing.T) {
	cases := []struct {
		visits []impl.Visit
		want   []int
	}{
		{threeVisits, []int{3, 9}},
		{visits(8, 1, 2, 4, 0, 3), []int{3, 9}},
		{shortVisit, []int{5}},
		{longVisit, []int{200}},
		{lateVisit, []int{400}},
		// One who leaves when another one comes needs no guide more.
		{visits(0, 2, 2, 3), []int{2}},
		{visits(0, 2, 3, 3), []int{2, 6}},
		{inARow, []int{2, 6}},
		{apartVisits, []int{1, 4, 7, 10}},
		{visits(0, 10, 5, 0), []int{5}},
		{visits(5, 0, 0, 10), []int{5}},
		{visits(5, 0, 5, 0, 5, 0), []int{5}},
		{visits(0, 10, 1, 0, 9, 0), []int{1, 9}},
		{visits(0, 10, 1, 1, 8, 1, 4, 2), []int{2, 6, 9}},
		{visits(0, 5, 4, 5, 8, 5, 12, 5, 16, 5, 20, 5), []int{5, 13, 21}},
		{visits(20, 5, 16, 5, 12, 5, 8, 5, 4, 5, 0, 5), []int{5, 13, 21}},
		{visits(0, 1, 2, 1, 4, 1, 6, 1, 8, 1, 10, 1), []int{1, 3, 5, 7, 9, 11}},
		{sixVisits, []int{0, 200}},
		{slices.Repeat(lateVisit, 6), []int{400}},
		{make([]impl.Visit, 6), []int{0}},
	}
	for _, c := range cases {
		// The order in which visits are kept is another one each time, and is not to be seen.
		for range 20 {
			guides, ok := impl.FewestGuides(c.visits)
			wantNumbers(t, "FewestGuides", guides, ok, c.want)
		}
	}
	for _, list := range noVisits() {
		guides, ok := impl.FewestGuides(list)
		wantNumbers(t, "FewestGuides", guides, ok, nil)
	}
}

func TestStaysNeeded(t *testing.T) {
	cases := []struct {
		arrivals []int
		want     int
	}{
		{[]int{4, 9, 7}, 5},
		{[]int{9, 7, 4}, 5},
		{[]int{4, 7, 9}, 5},
		{[]int{4, 4, 4}, 0},
		{[]int{4}, 0},
		{[]int{0}, 0},
		{[]int{200}, 0},
		{[]int{0, 200}, 200},
		{[]int{200, 0}, 200},
		{[]int{100, 0, 200, 50, 150, 199}, 200},
		{[]int{1, 2, 3, 4, 5, 6}, 5},
		{[]int{1, 2, 3, 4, 5, 6, 7}, fails},
		{make([]int, 100000), fails},
		{nil, fails},
		{[]int{}, fails},
	}
	for _, c := range cases {
		n, ok := impl.StaysNeeded(c.arrivals)
		wantInt(t, "StaysNeeded", n, ok, c.want)
	}
	for _, bad := range badStays {
		for _, arrivals := range [][]int{{bad}, {bad, 4}, {4, bad}, {4, 9, 7, 4, 9, bad}} {
			n, ok := impl.StaysNeeded(arrivals)
			wantInt(t, "StaysNeeded", n, ok, fails)
		}
	}
}

func TestShiftVisits(t *testing.T) {
	cases := []struct {
		visits []impl.Visit
		by     int
		want   []impl.Visit
	}{
		{threeVisits, 0, threeVisits},
		{threeVisits, 5, visits(5, 3, 7, 4, 13, 1)},
		{threeVisits, 192, visits(192, 3, 194, 4, 200, 1)},
		// They are no visits then.
		{threeVisits, 193, nil},
		{threeVisits, -1, nil},
		{threeVisits[1:], -2, visits(0, 4, 6, 1)},
		{threeVisits[1:], -3, nil},
		{shortVisit, -5, visits(0, 0)},
		{shortVisit, 195, visits(200, 0)},
		{shortVisit, -6, nil},
		{shortVisit, 196, nil},
		// Stays may go on beyond MaxMoments.
		{longVisit, 200, lateVisit},
		{lateVisit, -200, longVisit},
		{longVisit, 201, nil},
		{lateVisit, -201, nil},
		{lateVisit, 1, nil},
		{sixVisits, 0, sixVisits},
		{sixVisits, 1, nil},
		{sixVisits, -1, nil},
		{threeVisits, math.MaxInt, nil},
		{threeVisits, math.MinInt, nil},
		{threeVisits[1:], math.MaxInt, nil},
		{lateVisit, math.MaxInt, nil},
		{lateVisit, math.MaxInt - 199, nil},
		{lateVisit, math.MinInt, nil},
		{longVisit, math.MinInt, nil},
	}
	for _, c := range cases {
		shifted, ok := impl.ShiftVisits(c.visits, c.by)
		wantVisits(t, "ShiftVisits", shifted, ok, c.want)
	}
	for _, list := range noVisits() {
		for _, by := range []int{0, 1, -1, 3, -200, 200} {
			shifted, ok := impl.ShiftVisits(list, by)
			wantVisits(t, "ShiftVisits", shifted, ok, nil)
		}
	}
}

func TestVisitsText(t *testing.T) {
	cases := []struct {
		visits []impl.Visit
		text   string
	}{
		{threeVisits, "0+3,2+4,8+1"},
		{shortVisit, "5+0"},
		{longVisit, "0+200"},
		{lateVisit, "200+200"},
		{visits(0, 0), "0+0"},
		{inARow, "0+2,2+3,5+1,6+0"},
		{sixVisits, "0+200,200+200,200+0,0+0,100+100,199+1"},
	}
	for _, c := range cases {
		if text, ok := impl.VisitsText(c.visits); !ok || text != c.text {
			t.Errorf("VisitsText %v: got %q, %v", c.visits, text, ok)
		}
		list, ok := impl.ParseVisits(c.text)
		wantVisits(t, "ParseVisits", list, ok, c.visits)
	}
	for _, list := range noVisits() {
		if text, ok := impl.VisitsText(list); ok || text != "" {
			t.Errorf("VisitsText %.7v: got %q, %v", list, text, ok)
		}
	}
}

func TestParseVisitsOfNoText(t *testing.T) {
	for _, text := range []string{"", ",", "+", "+,+", "0", "0+", "+3", "0+3,", ",0+3", "0+3,,2+4", "0+3,2", "0+3,2+", "0+3,+4", "0++3", "+0+3", "0+3+4", "0+3+",
		"0+3;2+4", "0+3 2+4", "0+3, 2+4", "0+3 ,2+4", " 0+3", "0+3 ", "0 +3", "0+ 3", "0+3\n", "0+3\x00", "0++3,2+4", "-0+3", "0+-0", "-1+3", "0+-3", "0-3", "0:3", "0>3", "0/3",
		"00+3", "0+03", "02+3", "0+3,02+4", "0+3,2+04", "201+3", "0+201", "0+3,201+4", "0+3,2+201", "0.0+3", "0+3.0", "2e0+3", "0x2+3", "0+0x3", "1_0+3", "a+b", "0+y", "x+3",
		"\xff+3", "２+3", "0＋3", "0+3，2+4", "9223372036854775808+3", "0+9223372036854775808", "18446744073709551616+3", "0+18446744073709551619",
		"0+0,0+0,0+0,0+0,0+0,0+0,0+0", "0+0,0+0,0+0,0+0,0+0,0+0,", strings.Repeat("9", 10000) + "+3", "0+" + strings.Repeat("0", 10000) + "3",
		strings.Repeat("+", 100000), strings.Repeat(",", 100000), strings.Repeat("0+3,", 100000), strings.Repeat("0+3", 10000)} {
		if list, ok := impl.ParseVisits(text); ok || list != nil {
			t.Errorf("ParseVisits %.40q: got %v, %v", text, list, ok)
		}
	}
}
