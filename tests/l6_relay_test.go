package tests

import (
	"math"
	"slices"
	"strings"
	"testing"

	"loop.example/g01335/impl"
)

func leg(long int, fast int) impl.Leg {
	return impl.Leg{Long: long, Fast: fast}
}

// legs takes Long and Fast of each leg.
func legs(numbers ...int) []impl.Leg {
	var list []impl.Leg
	for k := 0; k < len(numbers); k += 2 {
		list = append(list, leg(numbers[k], numbers[k+1]))
	}
	return list
}

func sameLegs(count int, long int, fast int) []impl.Leg {
	list := make([]impl.Leg, count)
	for k := range list {
		list[k] = leg(long, fast)
	}
	return list
}

// twoLegs are those of the document's example.
var twoLegs = legs(60, 30, 60, 20)

// badLegs are beside each limit, and far from it.
var badLegs = legs(0, 0, 0, 30, -1, 30, 1001, 30, 60, 0, 60, -1, 60, 101, -60, -30, 1001, 101, math.MaxInt, 30, math.MinInt, 30,
	60, math.MaxInt, 60, math.MinInt, math.MaxInt, math.MaxInt, math.MinInt, math.MinInt)

// noLegs are lists that are no legs.
func noLegs() [][]impl.Leg {
	lists := [][]impl.Leg{nil, {}, sameLegs(6, 1, 1), sameLegs(6, 60, 30), make([]impl.Leg, 5), sameLegs(100000, 1, 1)}
	for _, bad := range badLegs {
		lists = append(lists, []impl.Leg{bad}, []impl.Leg{bad, leg(60, 20)}, []impl.Leg{leg(60, 30), bad}, append(sameLegs(4, 60, 30), bad))
	}
	return lists
}

func TestAreLegs(t *testing.T) {
	for _, list := range [][]impl.Leg{twoLegs, legs(1, 1), legs(1000, 100), legs(1, 100), legs(1000, 1), sameLegs(5, 1000, 100), legs(1, 1, 2, 2, 3, 3, 4, 4)} {
		if !impl.AreLegs(list) {
			t.Errorf("%v are legs", list)
		}
	}
	for _, list := range noLegs() {
		if impl.AreLegs(list) {
			t.Errorf("%.5v are no legs", list)
		}
	}
}

func TestTimesOfLegs(t *testing.T) {
	cases := []struct {
		legs       []impl.Leg
		long       int
		time, mean part
		ends       [][]int
	}{
		{twoLegs, 120, part{5, 1}, part{24, 1}, [][]int{{2, 1}, {5, 1}}},
		{legs(60, 20, 60, 30), 120, part{5, 1}, part{24, 1}, [][]int{{3, 1}, {5, 1}}},
		{legs(60, 30), 60, part{2, 1}, part{30, 1}, [][]int{{2, 1}}},
		{legs(7, 3), 7, part{7, 3}, part{3, 1}, [][]int{{7, 3}}},
		{legs(1, 2, 1, 3), 2, part{5, 6}, part{12, 5}, [][]int{{1, 2}, {5, 6}}},
		{legs(1, 3, 1, 6, 1, 2), 3, part{1, 1}, part{3, 1}, [][]int{{1, 3}, {1, 2}, {1, 1}}},
		{legs(1, 100), 1, part{1, 100}, part{100, 1}, [][]int{{1, 100}}},
		{legs(1000, 1), 1000, part{1000, 1}, part{1, 1}, [][]int{{1000, 1}}},
		{sameLegs(5, 1000, 1), 5000, part{5000, 1}, part{1, 1}, [][]int{{1000, 1}, {2000, 1}, {3000, 1}, {4000, 1}, {5000, 1}}},
		{sameLegs(5, 1, 100), 5, part{1, 20}, part{100, 1}, [][]int{{1, 100}, {1, 50}, {3, 100}, {1, 25}, {1, 20}}},
		{legs(1000, 100, 1, 1), 1001, part{11, 1}, part{91, 1}, [][]int{{10, 1}, {11, 1}}},
		// Times of legs are told however large their denominators are.
		{legs(1000, 97, 1000, 98, 1000, 99, 1000, 95, 1000, 89), 5000, part{41675830100, 795694977}, part{39784748850, 416758301},
			[][]int{{1000, 97}, {97500, 4753}, {14405500, 470547}, {367813900, 8940393}, {41675830100, 795694977}}},
	}
	for _, c := range cases {
		checkTimesOfLegs(t, c.legs, c.long, c.time, c.mean, c.ends)
	}
	for _, list := range noLegs() {
		checkTimesOfLegs(t, list, fails, none, none, nil)
	}
}

func checkTimesOfLegs(t *testing.T, list []impl.Leg, long int, time part, mean part, ends [][]int) {
	t.Helper()
	n, ok := impl.LongOfLegs(list)
	wantInt(t, "LongOfLegs", n, ok, long)
	num, den, ok := impl.TimeOfLegs(list)
	wantPart(t, "TimeOfLegs", num, den, ok, time)
	num, den, ok = impl.MeanSpeed(list)
	wantPart(t, "MeanSpeed", num, den, ok, mean)
	rows, ok := impl.TimesOfLegs(list)
	wantRows(t, "TimesOfLegs", rows, ok, ends)
}

func TestMeansOfSpeeds(t *testing.T) {
	cases := []struct {
		speeds            []int
		byTimes, byHalves part
	}{
		{[]int{30, 20}, part{25, 1}, part{24, 1}},
		{[]int{20, 30}, part{25, 1}, part{24, 1}},
		{[]int{30}, part{30, 1}, part{30, 1}},
		{[]int{1}, part{1, 1}, part{1, 1}},
		{[]int{100}, part{100, 1}, part{100, 1}},
		{[]int{1, 100}, part{101, 2}, part{200, 101}},
		{[]int{1, 2, 4}, part{7, 3}, part{12, 7}},
		{[]int{50, 50, 50}, part{50, 1}, part{50, 1}},
		{[]int{1, 1, 1, 1, 100}, part{104, 5}, part{500, 401}},
		{[]int{100, 100, 100, 100, 100}, part{100, 1}, part{100, 1}},
		{[]int{97, 98, 99, 95, 89}, part{478, 5}, part{39784748850, 416758301}},
		{nil, none, none},
		{[]int{}, none, none},
		{[]int{1, 1, 1, 1, 1, 1}, none, none},
		{make([]int, 100000), none, none},
		{[]int{0}, none, none},
		{[]int{-1}, none, none},
		{[]int{101}, none, none},
		{[]int{30, 0}, none, none},
		{[]int{0, 30}, none, none},
		{[]int{30, 20, 101}, none, none},
		{[]int{30, -30}, none, none},
		{[]int{30, 20, 30, 20, math.MaxInt}, none, none},
		{[]int{math.MinInt, 20}, none, none},
	}
	for _, c := range cases {
		num, den, ok := impl.MeanByTimes(c.speeds)
		wantPart(t, "MeanByTimes", num, den, ok, c.byTimes)
		num, den, ok = impl.MeanByHalves(c.speeds)
		wantPart(t, "MeanByHalves", num, den, ok, c.byHalves)
	}
}

func TestPlacesOnLegs(t *testing.T) {
	oneLeg, slowLegs := legs(7, 3), sameLegs(5, 1000, 1)
	fiveLegs := legs(1, 1, 2, 2, 3, 3, 4, 4, 5, 5)
	cases := []struct {
		legs     []impl.Leg
		num, den int
		place    part
		leg      int
	}{
		{twoLegs, 0, 1, part{0, 1}, 0},
		{twoLegs, 0, 1000, part{0, 1}, 0},
		{twoLegs, 1, 1, part{30, 1}, 0},
		{twoLegs, 1, 3, part{10, 1}, 0},
		{twoLegs, 1, 7, part{30, 7}, 0},
		{twoLegs, 1999, 1000, part{5997, 100}, 0},
		// At the end of a leg one is on the next one, however the time is told.
		{twoLegs, 2, 1, part{60, 1}, 1},
		{twoLegs, 4, 2, part{60, 1}, 1},
		{twoLegs, 2000, 1000, part{60, 1}, 1},
		{twoLegs, 2001, 1000, part{3001, 50}, 1},
		{twoLegs, 5, 2, part{70, 1}, 1},
		{twoLegs, 4999, 1000, part{5999, 50}, 1},
		{twoLegs, 5, 1, part{120, 1}, 1},
		{twoLegs, 5001, 1000, part{120, 1}, 1},
		{twoLegs, 6, 1, part{120, 1}, 1},
		{twoLegs, 100000, 1, part{120, 1}, 1},
		{twoLegs, 100000, 1000, part{120, 1}, 1},
		{oneLeg, 0, 5, part{0, 1}, 0},
		{oneLeg, 1, 1, part{3, 1}, 0},
		{oneLeg, 1, 999, part{1, 333}, 0},
		{oneLeg, 7, 3, part{7, 1}, 0},
		{oneLeg, 8, 3, part{7, 1}, 0},
		{oneLeg, 100000, 1, part{7, 1}, 0},
		{fiveLegs, 1, 2, part{1, 2}, 0},
		{fiveLegs, 1, 1, part{1, 1}, 1},
		{fiveLegs, 3, 2, part{2, 1}, 1},
		{fiveLegs, 2, 1, part{3, 1}, 2},
		{fiveLegs, 5, 2, part{9, 2}, 2},
		{fiveLegs, 3, 1, part{6, 1}, 3},
		{fiveLegs, 15, 4, part{9, 1}, 3},
		{fiveLegs, 4, 1, part{10, 1}, 4},
		{fiveLegs, 999, 200, part{599, 40}, 4},
		{fiveLegs, 5, 1, part{15, 1}, 4},
		{fiveLegs, 51, 10, part{15, 1}, 4},
		{slowLegs, 100000, 1000, part{100, 1}, 0},
		{slowLegs, 99999, 100, part{99999, 100}, 0},
		{slowLegs, 1000, 1, part{1000, 1}, 1},
		{slowLegs, 4999, 1, part{4999, 1}, 4},
		{slowLegs, 5000, 1, part{5000, 1}, 4},
		{slowLegs, 5001, 1, part{5000, 1}, 4},
	}
	for _, c := range cases {
		num, den, ok := impl.PlaceOnLegs(c.legs, c.num, c.den)
		wantPart(t, "PlaceOnLegs", num, den, ok, c.place)
		n, ok := impl.LegAt(c.legs, c.num, c.den)
		wantInt(t, "LegAt", n, ok, c.leg)
	}
	for _, list := range noLegs() {
		checkNoPlace(t, list, 1, 1)
	}
	for _, time := range []part{{-1, 1}, {1, 0}, {0, 0}, {1, -1}, {-1, -1}, {100001, 1}, {1, 1001}, {0, 1001}, {100001, 1001}, {100000, 0},
		{math.MaxInt, 1}, {math.MinInt, 1}, {1, math.MaxInt}, {1, math.MinInt}, {math.MaxInt, math.MaxInt}, {math.MinInt, math.MinInt}} {
		checkNoPlace(t, twoLegs, time.num, time.den)
	}
}

func checkNoPlace(t *testing.T, list []impl.Leg, num int, den int) {
	t.Helper()
	placeNum, placeDen, ok := impl.PlaceOnLegs(list, num, den)
	wantPart(t, "PlaceOnLegs", placeNum, placeDen, ok, none)
	n, ok := impl.LegAt(list, num, den)
	wantInt(t, "LegAt", n, ok, fails)
}

func TestNeededSpeed(t *testing.T) {
	oneLeg := legs(60, 30)
	cases := []struct {
		legs       []impl.Leg
		long, mean int
		want       part
	}{
		{oneLeg, 60, 40, part{60, 1}},
		{oneLeg, 60, 30, part{30, 1}},
		{oneLeg, 60, 1, part{30, 59}},
		// It may be far greater than speeds are.
		{oneLeg, 60, 59, part{1770, 1}},
		// No time is left, or less than none.
		{oneLeg, 60, 60, none},
		{oneLeg, 60, 61, none},
		{oneLeg, 60, 100, none},
		{oneLeg, 1, 30, part{30, 1}},
		{oneLeg, 1, 31, none},
		{oneLeg, 1000, 100, part{5000, 43}},
		{twoLegs, 60, 24, part{24, 1}},
		{twoLegs, 60, 35, part{420, 1}},
		{twoLegs, 60, 36, none},
		{twoLegs, 60, 20, part{15, 1}},
		{legs(1000, 1), 1, 1, part{1, 1}},
		{legs(1000, 1), 1000, 1, part{1, 1}},
		{legs(1000, 1), 1, 2, none},
		{legs(1000, 1), 1000, 2, none},
		{legs(1, 100), 1000, 100, part{100, 1}},
		{legs(1, 100), 1, 100, part{100, 1}},
		{sameLegs(5, 1000, 100), 1, 100, part{100, 1}},
		{sameLegs(5, 1000, 100), 1, 99, part{33, 17}},
		{legs(1000, 97, 1000, 98, 1000, 99, 1000, 95, 1000, 89), 1000, 97, part{7956949770, 75424159}},
		{oneLeg, 0, 40, none},
		{oneLeg, -60, 40, none},
		{oneLeg, 1001, 40, none},
		{oneLeg, 60, 0, none},
		{oneLeg, 60, -1, none},
		{oneLeg, 60, 101, none},
		{oneLeg, -60, -40, none},
		{oneLeg, math.MaxInt, 40, none},
		{oneLeg, math.MinInt, 40, none},
		{oneLeg, 60, math.MaxInt, none},
		{oneLeg, 60, math.MinInt, none},
	}
	for _, c := range cases {
		num, den, ok := impl.NeededSpeed(c.legs, c.long, c.mean)
		wantPart(t, "NeededSpeed", num, den, ok, c.want)
	}
	for _, list := range noLegs() {
		num, den, ok := impl.NeededSpeed(list, 60, 1)
		wantPart(t, "NeededSpeed", num, den, ok, none)
	}
}

func TestSlowestLeg(t *testing.T) {
	cases := []struct {
		legs []impl.Leg
		want int
	}{
		{twoLegs, 1},
		{legs(60, 20, 60, 30), 0},
		{legs(60, 30), 0},
		// The first one of several that take as long.
		{legs(60, 30, 40, 20), 0},
		{legs(1, 3, 3, 6, 1, 2), 1},
		{sameLegs(5, 1000, 1), 0},
		{legs(1, 2, 1, 1, 2, 2, 3, 3, 4, 4), 1},
		// Neither the longest one nor the one with the least speed takes the most time.
		{legs(1000, 100, 1, 1, 20, 1), 2},
		{legs(1, 1, 1000, 100), 1},
		{legs(99, 98, 98, 97), 1},
		{legs(98, 97, 99, 98), 0},
		{legs(997, 99, 987, 98), 1},
		{legs(1, 100, 1, 100, 1, 100, 1, 100, 1, 99), 4},
	}
	for _, c := range cases {
		n, ok := impl.SlowestLeg(c.legs)
		wantInt(t, "SlowestLeg", n, ok, c.want)
	}
	for _, list := range noLegs() {
		n, ok := impl.SlowestLeg(list)
		wantInt(t, "SlowestLeg", n, ok, fails)
	}
}

func TestRunnersOfLegs(t *testing.T) {
	cases := []struct {
		longs, speeds []int
		best, worst   []int
	}{
		{[]int{10, 20}, []int{3, 5}, []int{0, 1}, []int{1, 0}},
		{[]int{20, 10}, []int{3, 5}, []int{1, 0}, []int{0, 1}},
		{[]int{10}, []int{3}, []int{0}, []int{0}},
		{[]int{1000}, []int{100}, []int{0}, []int{0}},
		// The first one of several orders that take as long.
		{[]int{10, 10, 10}, []int{3, 5, 4}, []int{0, 1, 2}, []int{0, 1, 2}},
		{[]int{10, 20, 30}, []int{5, 5, 5}, []int{0, 1, 2}, []int{0, 1, 2}},
		{[]int{10, 10, 20}, []int{3, 5, 5}, []int{0, 1, 2}, []int{1, 2, 0}},
		{[]int{20, 10, 10}, []int{3, 5, 5}, []int{1, 0, 2}, []int{0, 1, 2}},
		{[]int{10, 20, 10}, []int{5, 3, 5}, []int{0, 2, 1}, []int{0, 1, 2}},
		{[]int{1, 2, 3, 4, 5, 6}, []int{1, 2, 3, 4, 5, 6}, []int{0, 1, 2, 3, 4, 5}, []int{5, 4, 3, 2, 1, 0}},
		{[]int{6, 5, 4, 3, 2, 1}, []int{1, 2, 3, 4, 5, 6}, []int{5, 4, 3, 2, 1, 0}, []int{0, 1, 2, 3, 4, 5}},
		{[]int{7, 7, 7, 7, 7, 7}, []int{6, 5, 4, 3, 2, 1}, []int{0, 1, 2, 3, 4, 5}, []int{0, 1, 2, 3, 4, 5}},
		// Times that are very near to each other.
		{[]int{999, 1000}, []int{99, 100}, []int{0, 1}, []int{1, 0}},
		{[]int{1000, 999, 998, 997, 996, 995}, []int{97, 89, 83, 79, 73, 71}, []int{0, 1, 2, 3, 4, 5}, []int{5, 4, 3, 2, 1, 0}},
		{[]int{995, 996, 997, 998, 999, 1000}, []int{64, 96, 32, 80, 100, 48}, []int{2, 5, 0, 3, 1, 4}, []int{4, 1, 3, 0, 5, 2}},
		{[]int{995, 996, 997, 998, 999, 1000}, []int{100, 99, 97, 91, 89, 83}, []int{5, 4, 3, 2, 1, 0}, []int{0, 1, 2, 3, 4, 5}},
		{nil, nil, nil, nil},
		{[]int{}, []int{}, nil, nil},
		{[]int{10}, nil, nil, nil},
		{nil, []int{3}, nil, nil},
		{[]int{10}, []int{3, 5}, nil, nil},
		{[]int{10, 20}, []int{3}, nil, nil},
		{[]int{1, 1, 1, 1, 1, 1, 1}, []int{1, 1, 1, 1, 1, 1, 1}, nil, nil},
		{[]int{1, 1, 1, 1, 1, 1}, []int{1, 1, 1, 1, 1, 1, 1}, nil, nil},
		{[]int{0, 20}, []int{3, 5}, nil, nil},
		{[]int{10, -20}, []int{3, 5}, nil, nil},
		{[]int{10, 1001}, []int{3, 5}, nil, nil},
		{[]int{10, 20}, []int{0, 5}, nil, nil},
		{[]int{10, 20}, []int{3, -5}, nil, nil},
		{[]int{10, 20}, []int{3, 101}, nil, nil},
		{[]int{10, math.MaxInt}, []int{3, 5}, nil, nil},
		{[]int{10, 20}, []int{math.MinInt, 5}, nil, nil},
	}
	for _, c := range cases {
		order, ok := impl.BestRunners(c.longs, c.speeds)
		wantNumbers(t, "BestRunners", order, ok, c.best)
		order, ok = impl.WorstRunners(c.longs, c.speeds)
		wantNumbers(t, "WorstRunners", order, ok, c.worst)
	}
}

func TestSharedBicycle(t *testing.T) {
	cases := []struct {
		long, foot, wheel int
		place, time       part
	}{
		{12, 4, 12, part{6, 1}, part{2, 1}},
		{7, 2, 3, part{7, 2}, part{35, 12}},
		{1, 1, 2, part{1, 2}, part{3, 4}},
		{1, 1, 100, part{1, 2}, part{101, 200}},
		{1, 99, 100, part{1, 2}, part{199, 19800}},
		{1000, 99, 100, part{500, 1}, part{995, 99}},
		{1000, 1, 100, part{500, 1}, part{505, 1}},
		{1000, 1, 2, part{500, 1}, part{750, 1}},
		// The bicycle has to be faster.
		{12, 12, 12, none, none},
		{12, 13, 12, none, none},
		{12, 1, 1, none, none},
		{12, 100, 100, none, none},
		{12, 0, 12, none, none},
		{12, -4, 12, none, none},
		{12, 4, 0, none, none},
		{12, 4, -12, none, none},
		{12, 4, 101, none, none},
		{12, 101, 102, none, none},
		{0, 4, 12, none, none},
		{-12, 4, 12, none, none},
		{1001, 4, 12, none, none},
		{math.MaxInt, 4, 12, none, none},
		{12, math.MinInt, 12, none, none},
		{12, 4, math.MaxInt, none, none},
	}
	for _, c := range cases {
		num, den, timeNum, timeDen, ok := impl.SharedBicycle(c.long, c.foot, c.wheel)
		wantPart(t, "SharedBicycle, place", num, den, ok, c.place)
		wantPart(t, "SharedBicycle, time", timeNum, timeDen, ok, c.time)
	}
}

func TestRideAndWalk(t *testing.T) {
	cases := []struct {
		long, a, b, wheel int
		place, time       part
	}{
		{12, 4, 6, 12, part{8, 1}, part{5, 3}},
		// Whoever begins, the slower one rides farther.
		{12, 6, 4, 12, part{4, 1}, part{5, 3}},
		{12, 4, 4, 12, part{6, 1}, part{2, 1}},
		{7, 3, 5, 11, part{140, 29}, part{371, 319}},
		{10, 1, 99, 100, part{49005, 4901}, part{9901, 98020}},
		{10, 99, 1, 100, part{5, 4901}, part{9901, 98020}},
		{1, 1, 1, 2, part{1, 2}, part{3, 4}},
		{1, 1, 98, 99, part{9604, 9605}, part{9703, 950895}},
		{1000, 99, 98, 100, part{12250, 37}, part{745, 74}},
		{1000, 98, 97, 99, part{97000, 293}, part{295000, 29007}},
		{1000, 99, 99, 100, part{500, 1}, part{995, 99}},
		{12, 12, 6, 12, none, none},
		{12, 4, 12, 12, none, none},
		{12, 13, 6, 12, none, none},
		{12, 4, 13, 12, none, none},
		{12, 1, 1, 1, none, none},
		{12, 0, 6, 12, none, none},
		{12, 4, 0, 12, none, none},
		{12, -4, 6, 12, none, none},
		{12, 4, -6, 12, none, none},
		{12, 4, 6, 0, none, none},
		{12, -4, -6, -2, none, none},
		{12, 4, 6, 101, none, none},
		{12, 101, 6, 12, none, none},
		{0, 4, 6, 12, none, none},
		{-12, 4, 6, 12, none, none},
		{1001, 4, 6, 12, none, none},
		{math.MaxInt, 4, 6, 12, none, none},
		{12, math.MinInt, 6, 12, none, none},
		{12, 4, math.MinInt, 12, none, none},
		{12, 4, 6, math.MaxInt, none, none},
	}
	for _, c := range cases {
		num, den, timeNum, timeDen, ok := impl.RideAndWalk(c.long, c.a, c.b, c.wheel)
		wantPart(t, "RideAndWalk, place", num, den, ok, c.place)
		wantPart(t, "RideAndWalk, time", timeNum, timeDen, ok, c.time)
	}
}

func wantLegs(t *testing.T, what string, got []impl.Leg, ok bool, want []impl.Leg) {
	t.Helper()
	if ok != (want != nil) || !slices.Equal(got, want) {
		t.Errorf("%s: got %v, %v, not %v", what, got, ok, want)
	}
}

func TestJoinLegs(t *testing.T) {
	cases := []struct {
		legs, want []impl.Leg
	}{
		{twoLegs, twoLegs},
		{legs(60, 30), legs(60, 30)},
		{legs(60, 30, 60, 30), legs(120, 30)},
		{legs(60, 30, 50, 30), legs(110, 30)},
		// Only those one behind the other become one.
		{legs(60, 30, 60, 20, 60, 30), legs(60, 30, 60, 20, 60, 30)},
		{legs(60, 30, 30, 60), legs(60, 30, 30, 60)},
		{legs(10, 5, 20, 5, 30, 4, 40, 4, 50, 5), legs(30, 5, 70, 4, 50, 5)},
		{legs(10, 5, 20, 4, 30, 4, 40, 4, 50, 5), legs(10, 5, 90, 4, 50, 5)},
		{legs(10, 5, 20, 4, 30, 3, 40, 3, 50, 3), legs(10, 5, 20, 4, 120, 3)},
		{legs(10, 5, 20, 5, 30, 5, 40, 5, 50, 4), legs(100, 5, 50, 4)},
		{legs(10, 5, 20, 4, 30, 3, 40, 2, 50, 1), legs(10, 5, 20, 4, 30, 3, 40, 2, 50, 1)},
		{sameLegs(5, 1, 100), legs(5, 100)},
		{sameLegs(5, 200, 1), legs(1000, 1)},
		{legs(500, 3, 500, 3), legs(1000, 3)},
		{legs(400, 3, 300, 3, 300, 3), legs(1000, 3)},
		{legs(1, 1, 600, 2, 400, 2, 1, 1), legs(1, 1, 1000, 2, 1, 1)},
		{legs(1000, 3, 1000, 4, 1000, 3), legs(1000, 3, 1000, 4, 1000, 3)},
		// One is too long then.
		{legs(500, 3, 501, 3), nil},
		{legs(1000, 3, 1, 3), nil},
		{legs(400, 3, 300, 3, 301, 3), nil},
		{legs(1, 1, 600, 2, 401, 2, 1, 1), nil},
		{legs(1, 1, 1, 2, 1000, 3, 1000, 3), nil},
		{legs(201, 1, 200, 1, 200, 1, 200, 1, 200, 1), nil},
		{sameLegs(5, 1000, 100), nil},
	}
	for _, c := range cases {
		joined, ok := impl.JoinLegs(c.legs)
		wantLegs(t, "JoinLegs", joined, ok, c.want)
	}
	for _, list := range noLegs() {
		joined, ok := impl.JoinLegs(list)
		wantLegs(t, "JoinLegs", joined, ok, nil)
	}
}

func TestLegsText(t *testing.T) {
	cases := []struct {
		legs []impl.Leg
		text string
	}{
		{twoLegs, "60/30+60/20"},
		{legs(60, 30), "60/30"},
		{legs(1, 1), "1/1"},
		{legs(1000, 100), "1000/100"},
		{legs(10, 10, 100, 20), "10/10+100/20"},
		{sameLegs(5, 1000, 100), "1000/100+1000/100+1000/100+1000/100+1000/100"},
	}
	for _, c := range cases {
		if text, ok := impl.LegsText(c.legs); !ok || text != c.text {
			t.Errorf("LegsText %v: got %q, %v", c.legs, text, ok)
		}
		list, ok := impl.ParseLegs(c.text)
		wantLegs(t, "ParseLegs", list, ok, c.legs)
	}
	for _, list := range noLegs() {
		if text, ok := impl.LegsText(list); ok || text != "" {
			t.Errorf("LegsText %.5v: got %q, %v", list, text, ok)
		}
	}
}

func TestParseLegsOfNoText(t *testing.T) {
	for _, text := range []string{"", "+", "/", "/+/", "60", "60/", "/30", "60/30+", "+60/30", "60/30++60/20", "60/30+60", "60/30+/20", "60//30", "60/30/20",
		"60/30,60/20", "60/30 60/20", "60/30+ 60/20", "60/30 +60/20", " 60/30", "60/30 ", "60 /30", "60/ 30", "60/30\n", "60/30\x00", "+60/+30", "60/+30",
		"-60/30", "60/-30", "60/30-60/20", "60/30+-60/20", "060/30", "60/030", "60/30+060/20", "0/30", "60/0", "60/30+0/0", "-0/30", "1001/30", "60/101",
		"60/30+1001/20", "60.0/30", "6e1/30", "0x3c/30", "6_0/30", "a/b", "60/x", "60-30", "60:30", "60>30", "\xff/30", "６0/30", "60∕30", "60/30＋60/20",
		"9223372036854775808/30", "60/9223372036854775808", "18446744073709551676/30", "60/18446744073709551646", "1/1+1/1+1/1+1/1+1/1+1/1",
		"1/1+1/1+1/1+1/1+1/1+", strings.Repeat("9", 10000) + "/30", "60/" + strings.Repeat("0", 10000) + "30", strings.Repeat("+", 100000),
		strings.Repeat("/", 100000), strings.Repeat("1/1+", 100000)} {
		if list, ok := impl.ParseLegs(text); ok || list != nil {
			t.Errorf("ParseLegs %.40q: got %v, %v", text, list, ok)
		}
	}
}
