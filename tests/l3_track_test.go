package tests

import (
	"math"
	"slices"
	"strings"
	"testing"

	"loop.example/g01335/impl"
)

func runner(start int, speed int) impl.Runner {
	return impl.Runner{Start: start, Speed: speed}
}

// runners takes start and speed of each runner.
func runners(numbers ...int) []impl.Runner {
	var list []impl.Runner
	for k := 0; k < len(numbers); k += 2 {
		list = append(list, runner(numbers[k], numbers[k+1]))
	}
	return list
}

// sameRunners returns so many runners with one start and one speed.
func sameRunners(count int) []impl.Runner {
	return slices.Repeat(runners(0, 1), count)
}

var twoRunners = runners(0, 3, 0, 1)

// badRunners are beside each limit of a track of 10 places, and far from it.
var badRunners = runners(-1, 3, 10, 3, math.MaxInt, 3, math.MinInt, 3, 0, 0, 0, -1, 0, 101, 0, math.MaxInt, 0, math.MinInt)

var badLaps = []int{math.MinInt, -10, -1, 0, 1, 1001, math.MaxInt}

func TestAreRunners(t *testing.T) {
	cases := []struct {
		lap  int
		list []impl.Runner
		want bool
	}{
		{10, twoRunners, true},
		{2, runners(0, 1), true},
		{2, runners(1, 100), true},
		{2, runners(2, 1), false},
		{1000, runners(999, 100, 0, 1), true},
		{1000, runners(1000, 1), false},
		{10, runners(9, 1), true},
		{10, nil, false},
		{10, []impl.Runner{}, false},
		{10, []impl.Runner{{}}, false},
	}
	for count := range 9 {
		if got := impl.AreRunners(10, sameRunners(count)); got != isIn(count, 1, 6) {
			t.Errorf("AreRunners of %d: got %v", count, got)
		}
	}
	for _, c := range cases {
		if got := impl.AreRunners(c.lap, c.list); got != c.want {
			t.Errorf("AreRunners %d %v: got %v", c.lap, c.list, got)
		}
	}
	for _, r := range badRunners {
		if impl.AreRunners(10, []impl.Runner{r}) || impl.AreRunners(10, []impl.Runner{{Speed: 1}, r}) {
			t.Errorf("%v is no runner", r)
		}
	}
	for _, lap := range badLaps {
		if impl.AreRunners(lap, twoRunners) {
			t.Errorf("%d is no lap", lap)
		}
	}
}

func TestPlacesAndLaps(t *testing.T) {
	cases := []struct {
		lap               int
		r                 impl.Runner
		time, place, laps int
	}{
		{10, runner(0, 3), 0, 0, 0},
		{10, runner(0, 3), 3, 9, 0},
		{10, runner(0, 3), 4, 2, 1},
		{10, runner(0, 3), 10, 0, 3},
		// Laps are counted from the start, not from the place 0.
		{10, runner(9, 1), 1, 0, 0},
		{10, runner(9, 1), 9, 8, 0},
		{10, runner(9, 1), 10, 9, 1},
		{10, runner(7, 100), 1, 7, 10},
		{2, runner(1, 1), 999999, 0, 499999},
		{2, runner(1, 100), 1, 1, 50},
		{1000, runner(999, 100), 1000000, 999, 100000},
		{1000, runner(999, 1), 1000000, 999, 1000},
		{999, runner(998, 100), 1000000, 99, 100100},
		{10, runner(0, 3), -1, fails, fails},
		{10, runner(0, 3), 1000001, fails, fails},
		{10, runner(10, 3), 1, fails, fails},
		{10, runner(0, 0), 1, fails, fails},
		{10, runner(0, 101), 1, fails, fails},
		{1, runner(0, 3), 1, fails, fails},
		{1001, runner(0, 3), 1, fails, fails},
	}
	for _, c := range cases {
		n, ok := impl.PlaceOnTrack(c.lap, c.r, c.time)
		wantInt(t, "PlaceOnTrack", n, ok, c.place)
		n, ok = impl.LapsAt(c.lap, c.r, c.time)
		wantInt(t, "LapsAt", n, ok, c.laps)
	}
}

func TestOrderOnTrack(t *testing.T) {
	cases := []struct {
		lap  int
		list []impl.Runner
		time int
		want []int
	}{
		{10, twoRunners, 0, []int{0, 1}},
		{10, twoRunners, 5, []int{0, 1}},
		{10, runners(0, 1, 0, 3), 0, []int{0, 1}},
		{10, runners(0, 1, 0, 3), 1, []int{1, 0}},
		{10, runners(0, 3, 4, 1), 1, []int{1, 0}},
		{10, runners(0, 3, 4, 1), 2, []int{0, 1}},
		{10, runners(4, 1, 0, 3), 2, []int{0, 1}},
		{10, runners(4, 1, 0, 3), 3, []int{1, 0}},
		// It is how far they are that counts: the place of the second one is greater.
		{10, runners(9, 1, 8, 1), 1, []int{0, 1}},
		{10, runners(1, 1, 3, 1, 2, 1, 3, 1, 1, 1, 9, 1), 1000000, []int{5, 1, 3, 2, 0, 4}},
		{1000, runners(999, 1, 0, 100), 10, []int{0, 1}},
		{1000, runners(999, 1, 0, 100), 11, []int{1, 0}},
		{10, runners(5, 5), 7, []int{0}},
		{10, sameRunners(6), 3, []int{0, 1, 2, 3, 4, 5}},
		{10, sameRunners(7), 3, nil},
		{10, nil, 3, nil},
		{10, twoRunners, -1, nil},
		{10, twoRunners, 1000001, nil},
		{1, sameRunners(2), 1, nil},
		{1001, twoRunners, 1, nil},
		{10, runners(0, 3, 10, 1), 1, nil},
	}
	for _, c := range cases {
		order, ok := impl.OrderOnTrack(c.lap, c.list, c.time)
		wantNumbers(t, "OrderOnTrack", order, ok, c.want)
	}
}

func TestLeadBetween(t *testing.T) {
	cases := []struct {
		lap        int
		r, s       impl.Runner
		time, want int
	}{
		{10, runner(0, 3), runner(4, 1), 0, -4},
		{10, runner(0, 3), runner(4, 1), 2, 0},
		{10, runner(0, 3), runner(4, 1), 3, 2},
		{10, runner(0, 3), runner(4, 1), 10, 16},
		{10, runner(7, 5), runner(7, 5), 9, 0},
		{1000, runner(999, 100), runner(0, 1), 1000000, 99000999},
		{1000, runner(0, 1), runner(999, 100), 1000000, -99000999},
		{10, runner(0, 3), runner(4, 1), -1, fails},
		{10, runner(0, 3), runner(4, 1), 1000001, fails},
		{10, runner(0, 3), runner(10, 1), 3, fails},
		{10, runner(-1, 3), runner(4, 1), 3, fails},
		{10, runner(0, 3), runner(4, 0), 3, fails},
		{1, runner(0, 3), runner(0, 1), 3, fails},
		{1001, runner(0, 3), runner(0, 1), 3, fails},
	}
	for _, c := range cases {
		n, ok := impl.LeadBetween(c.lap, c.r, c.s, c.time)
		wantInt(t, "LeadBetween", n, ok, c.want)
	}
}

func TestMeetingTimes(t *testing.T) {
	cases := []struct {
		lap   int
		r, s  impl.Runner
		until int
		want  []int
	}{
		{10, runner(0, 3), runner(0, 1), 0, []int{0}},
		{10, runner(0, 3), runner(0, 1), 4, []int{0}},
		{10, runner(0, 3), runner(0, 1), 5, []int{0, 5}},
		{10, runner(0, 3), runner(0, 1), 16, []int{0, 5, 10, 15}},
		{10, runner(0, 3), runner(4, 1), 1, []int{}},
		{10, runner(0, 3), runner(4, 1), 7, []int{2, 7}},
		// Between two whole times they may pass each other, and not be together.
		{10, runner(0, 2), runner(5, 4), 10000, []int{}},
		{10, runner(0, 100), runner(1, 1), 9, []int{9}},
		{10, runner(3, 4), runner(3, 4), 3, []int{0, 1, 2, 3}},
		{10, runner(3, 4), runner(4, 4), 10000, []int{}},
		{2, runner(0, 1), runner(1, 2), 4, []int{1, 3}},
		{1000, runner(0, 1), runner(1, 2), 3000, []int{999, 1999, 2999}},
		{10, runner(0, 3), runner(0, 1), -1, nil},
		{10, runner(0, 3), runner(0, 1), 10001, nil},
		{10, runner(0, 3), runner(10, 1), 5, nil},
		{10, runner(0, 101), runner(0, 1), 5, nil},
		{1, runner(0, 3), runner(0, 1), 5, nil},
		{1001, runner(0, 3), runner(0, 1), 5, nil},
	}
	for _, c := range cases {
		times, ok := impl.MeetingTimes(c.lap, c.r, c.s, c.until)
		wantNumbers(t, "MeetingTimes", times, ok, c.want)
		times, ok = impl.MeetingTimes(c.lap, c.s, c.r, c.until)
		wantNumbers(t, "MeetingTimes the other way", times, ok, c.want)
	}
	times, ok := impl.MeetingTimes(1000, runner(0, 1), runner(0, 1), 10000)
	if !ok || len(times) != 10001 || times[10000] != 10000 {
		t.Errorf("MeetingTimes at all times: got %d, %v", len(times), ok)
	}
}

func TestFirstMeetAndMeetingPlaces(t *testing.T) {
	cases := []struct {
		lap         int
		r, s        impl.Runner
		time, place int
		places      []int
	}{
		{10, runner(0, 3), runner(0, 1), 0, 0, []int{0, 5}},
		{10, runner(0, 3), runner(4, 1), 2, 6, []int{1, 6}},
		{10, runner(9, 1), runner(0, 10), 1, 0, []int{0}},
		{10, runner(3, 4), runner(3, 4), 0, 3, []int{1, 3, 5, 7, 9}},
		{10, runner(7, 100), runner(7, 10), 0, 7, []int{7}},
		{10, runner(3, 4), runner(4, 4), fails, 0, []int{}},
		{10, runner(0, 2), runner(5, 4), fails, 0, []int{}},
		{2, runner(0, 1), runner(1, 2), 1, 1, []int{1}},
		{2, runner(0, 1), runner(1, 1), fails, 0, []int{}},
		{2, runner(1, 1), runner(1, 3), 0, 1, []int{0, 1}},
		{1000, runner(0, 1), runner(1, 2), 999, 999, []int{999}},
		{1000, runner(999, 100), runner(999, 50), 0, 999, []int{999}},
		{1000, runner(0, 1), runner(999, 3), fails, 0, []int{}},
		{10, runner(0, 3), runner(10, 1), fails, 0, nil},
		{10, runner(0, 3), runner(0, 0), fails, 0, nil},
		{10, runner(0, 101), runner(0, 1), fails, 0, nil},
		{1, runner(0, 3), runner(0, 1), fails, 0, nil},
		{1001, runner(0, 3), runner(0, 1), fails, 0, nil},
	}
	for _, c := range cases {
		for _, pair := range [][]impl.Runner{{c.r, c.s}, {c.s, c.r}} {
			time, place, ok := impl.FirstMeet(c.lap, pair[0], pair[1])
			wantInt(t, "FirstMeet", time, ok, c.time)
			if place != c.place {
				t.Errorf("FirstMeet %v: got the place %d, not %d", c, place, c.place)
			}
			places, ok := impl.MeetingPlaces(c.lap, pair[0], pair[1])
			wantNumbers(t, "MeetingPlaces", places, ok, c.places)
		}
	}
}

func TestCountOvertakings(t *testing.T) {
	cases := []struct {
		lap         int
		r, s        impl.Runner
		until, want int
	}{
		// From the side of the other one it is before it at once, and again behind each lap more.
		{10, runner(0, 3), runner(0, 1), 0, 0},
		{10, runner(0, 3), runner(0, 1), 1, 1},
		{10, runner(0, 3), runner(0, 1), 5, 1},
		{10, runner(0, 3), runner(0, 1), 6, 2},
		{10, runner(0, 3), runner(0, 1), 10, 2},
		{10, runner(0, 3), runner(0, 1), 11, 3},
		{10, runner(0, 3), runner(5, 1), 2, 0},
		{10, runner(0, 3), runner(5, 1), 3, 1},
		{10, runner(0, 3), runner(4, 1), 2, 0},
		{10, runner(0, 3), runner(4, 1), 3, 1},
		{10, runner(5, 3), runner(0, 1), 2, 0},
		{10, runner(5, 3), runner(0, 1), 3, 1},
		{10, runner(9, 2), runner(0, 1), 1, 0},
		{10, runner(9, 2), runner(0, 1), 2, 1},
		{10, runner(9, 2), runner(0, 1), 11, 1},
		{10, runner(9, 2), runner(0, 1), 12, 2},
		{10, runner(0, 100), runner(0, 50), 1, 5},
		// One that is not faster overtakes nobody, wherever it is.
		{10, runner(0, 1), runner(0, 3), 10, 0},
		{10, runner(9, 1), runner(0, 3), 10, 0},
		{10, runner(0, 3), runner(0, 3), 10, 0},
		{10, runner(9, 3), runner(0, 3), 10, 0},
		{10, runner(0, 3), runner(9, 3), 10, 0},
		{2, runner(0, 100), runner(1, 1), 1000000, 49500000},
		{2, runner(1, 100), runner(1, 1), 1000000, 49500000},
		{1000, runner(0, 2), runner(999, 1), 999, 0},
		{1000, runner(0, 2), runner(999, 1), 1000, 1},
		{1000, runner(999, 100), runner(0, 1), 1000000, 99000},
		{10, runner(0, 3), runner(0, 1), -1, fails},
		{10, runner(0, 3), runner(0, 1), 1000001, fails},
		{10, runner(0, 3), runner(10, 1), 5, fails},
		{10, runner(0, 3), runner(0, 0), 5, fails},
		{10, runner(0, 0), runner(0, 1), 5, fails},
		{1, runner(0, 3), runner(0, 1), 5, fails},
		{1001, runner(0, 3), runner(0, 1), 5, fails},
	}
	for _, c := range cases {
		n, ok := impl.CountOvertakings(c.lap, c.r, c.s, c.until)
		wantInt(t, "CountOvertakings", n, ok, c.want)
	}
}

func TestRunPeriodAndAllTogether(t *testing.T) {
	cases := []struct {
		lap              int
		list             []impl.Runner
		period, together int
	}{
		{10, twoRunners, 10, 0},
		{10, runners(4, 5), 2, 0},
		{2, runners(1, 2), 1, 0},
		{2, runners(1, 1), 2, 0},
		{2, runners(0, 1, 1, 1), 2, fails},
		{100, runners(99, 100), 1, 0},
		{1000, runners(999, 1), 1000, 0},
		{12, runners(0, 4, 5, 6), 6, fails},
		{12, runners(0, 4, 6, 6), 6, 3},
		{10, runners(0, 3, 4, 1, 2, 2), 10, 2},
		{10, runners(0, 2, 5, 4), 5, fails},
		{10, runners(3, 4, 4, 4), 5, fails},
		{10, runners(3, 4, 3, 4), 5, 0},
		// Each two of them are together at some time, but never all three.
		{5, runners(0, 1, 0, 2, 1, 3), 5, fails},
		{1000, runners(0, 1, 1, 2), 1000, 999},
		{1000, runners(0, 1, 1, 2, 2, 3, 3, 4, 4, 5, 5, 6), 1000, 999},
		{10, sameRunners(6), 10, 0},
		{10, append(sameRunners(5), runner(1, 1)), 10, fails},
		{10, sameRunners(7), fails, fails},
		{10, nil, fails, fails},
		{10, runners(0, 3, 10, 1), fails, fails},
		{10, runners(0, 3, 0, 0), fails, fails},
		{1, sameRunners(2), fails, fails},
		{1001, sameRunners(2), fails, fails},
	}
	for _, c := range cases {
		n, ok := impl.RunPeriod(c.lap, c.list)
		wantInt(t, "RunPeriod", n, ok, c.period)
		n, ok = impl.AllRunnersTogether(c.lap, c.list)
		wantInt(t, "AllRunnersTogether", n, ok, c.together)
	}
}

func TestNearestOthers(t *testing.T) {
	cases := []struct {
		lap           int
		list          []impl.Runner
		k, time, want int
	}{
		{10, twoRunners, 0, 0, 0},
		{10, twoRunners, 0, 2, 4},
		{10, twoRunners, 1, 2, 4},
		{10, twoRunners, 0, 3, 4},
		{10, twoRunners, 0, 4, 2},
		{10, twoRunners, 0, 1000000, 0},
		{10, runners(0, 1, 5, 1), 0, 7, 5},
		{10, runners(0, 1, 3, 1, 8, 1), 0, 0, 2},
		{10, runners(0, 1, 3, 1, 8, 1), 1, 0, 3},
		{10, runners(0, 1, 3, 1, 8, 1), 2, 999999, 2},
		{2, runners(0, 1, 1, 1), 1, 1, 1},
		{3, runners(0, 1, 2, 1), 0, 1, 1},
		{1000, runners(0, 1, 999, 1), 1, 1000000, 1},
		{1000, runners(0, 1, 500, 1), 1, 3, 500},
		{10, sameRunners(6), 5, 3, 0},
		{10, runners(0, 3), 0, 0, fails},
		{10, twoRunners, -1, 0, fails},
		{10, twoRunners, 2, 0, fails},
		{10, twoRunners, 0, -1, fails},
		{10, twoRunners, 0, 1000001, fails},
		{10, sameRunners(7), 0, 0, fails},
		{10, nil, 0, 0, fails},
		{10, runners(0, 3, 10, 1), 0, 0, fails},
		{1, sameRunners(2), 0, 0, fails},
		{1001, sameRunners(2), 0, 0, fails},
	}
	for _, c := range cases {
		n, ok := impl.NearestOthers(c.lap, c.list, c.k, c.time)
		wantInt(t, "NearestOthers", n, ok, c.want)
	}
}

func TestLonelyTime(t *testing.T) {
	cases := []struct {
		lap     int
		list    []impl.Runner
		k, want int
	}{
		{10, twoRunners, 0, 2},
		{10, twoRunners, 1, 2},
		{10, sameRunners(2), 0, 0},
		{10, runners(0, 1, 4, 1), 1, 0},
		{2, runners(0, 1, 0, 2), 0, 1},
		{1000, runners(0, 1, 0, 2), 0, 500},
		{1000, runners(0, 1, 501, 2), 0, 999},
		{1000, runners(501, 2, 0, 1, 0, 1), 1, 0},
		{1000, runners(501, 2, 0, 1, 0, 1), 0, 999},
		{10, runners(0, 3), 0, fails},
		{10, twoRunners, -1, fails},
		{10, twoRunners, 2, fails},
		{10, sameRunners(7), 0, fails},
		{10, nil, 0, fails},
		{10, runners(0, 3, 0, 101), 0, fails},
		{1, sameRunners(2), 0, fails},
		{1001, sameRunners(2), 0, fails},
	}
	for _, c := range cases {
		n, ok := impl.LonelyTime(c.lap, c.list, c.k)
		wantInt(t, "LonelyTime", n, ok, c.want)
	}
}

func TestHandicapFor(t *testing.T) {
	cases := []struct {
		lap        int
		r, s       impl.Runner
		laps, want int
	}{
		{10, runner(0, 3), runner(0, 1), 3, 20},
		{10, runner(0, 1), runner(0, 3), 1, -20},
		{10, runner(5, 2), runner(0, 2), 1, 5},
		{10, runner(0, 2), runner(5, 2), 1, -5},
		{10, runner(4, 5), runner(4, 5), 7, 0},
		{10, runner(9, 3), runner(4, 1), 3, 25},
		{10, runner(0, 3), runner(0, 1), 1, fails},
		{10, runner(0, 3), runner(0, 1), 100, fails},
		{10, runner(0, 3), runner(0, 1), 99, 660},
		{2, runner(0, 100), runner(1, 1), 50, 98},
		{2, runner(0, 100), runner(1, 1), 49, fails},
		{1000, runner(999, 1), runner(0, 100), 100, -9899001},
		{1000, runner(0, 100), runner(999, 1), 100, 98001},
		{10, runner(0, 3), runner(0, 1), 0, fails},
		{10, runner(0, 1), runner(0, 1), 101, fails},
		{10, runner(0, 3), runner(0, 1), -3, fails},
		{10, runner(0, 1), runner(10, 1), 3, fails},
		{10, runner(0, 0), runner(0, 1), 3, fails},
		{10, runner(0, 1), runner(0, 0), 3, fails},
		{1, runner(0, 1), runner(0, 1), 3, fails},
		{1001, runner(0, 1), runner(0, 1), 3, fails},
	}
	for _, c := range cases {
		n, ok := impl.HandicapFor(c.lap, c.r, c.s, c.laps)
		wantInt(t, "HandicapFor", n, ok, c.want)
	}
}

func TestWinnerOfLaps(t *testing.T) {
	cases := []struct {
		lap  int
		list []impl.Runner
		laps int
		want []int
	}{
		{10, twoRunners, 3, []int{0}},
		{10, runners(0, 1, 0, 3), 3, []int{1}},
		{10, runners(0, 3, 0, 4), 1, []int{1}},
		{10, runners(0, 4, 0, 3, 0, 4), 1, []int{0, 2}},
		// Of two that are there at one whole time both win, also if one of them is farther.
		{10, runners(0, 6, 0, 7), 1, []int{0, 1}},
		{10, runners(0, 6, 0, 7), 3, []int{0, 1}},
		{10, runners(0, 6, 0, 7), 4, []int{1}},
		{2, runners(0, 100, 1, 2, 1, 1), 1, []int{0, 1}},
		// A start is no head start.
		{10, runners(9, 3, 0, 4), 1, []int{1}},
		{10, runners(5, 2), 100, []int{0}},
		{1000, runners(0, 1, 999, 1), 100, []int{0, 1}},
		{10, sameRunners(6), 1, []int{0, 1, 2, 3, 4, 5}},
		{10, sameRunners(7), 1, nil},
		{10, nil, 1, nil},
		{10, twoRunners, 0, nil},
		{10, twoRunners, -1, nil},
		{10, twoRunners, 101, nil},
		{10, runners(0, 3, 0, 0), 1, nil},
		{1, sameRunners(2), 1, nil},
		{1001, sameRunners(2), 1, nil},
	}
	for _, c := range cases {
		winners, ok := impl.WinnerOfLaps(c.lap, c.list, c.laps)
		wantNumbers(t, "WinnerOfLaps", winners, ok, c.want)
	}
}

func TestTimeOfLaps(t *testing.T) {
	cases := []struct {
		lap  int
		r    impl.Runner
		laps int
		want part
	}{
		{10, runner(0, 3), 1, part{10, 3}},
		{10, runner(0, 3), 3, part{10, 1}},
		{10, runner(9, 4), 1, part{5, 2}},
		{2, runner(0, 100), 1, part{1, 50}},
		{2, runner(1, 1), 1, part{2, 1}},
		{1000, runner(999, 1), 100, part{100000, 1}},
		{1000, runner(0, 99), 100, part{100000, 99}},
		{10, runner(0, 3), 0, none},
		{10, runner(0, 3), -1, none},
		{10, runner(0, 3), 101, none},
		{10, runner(10, 3), 1, none},
		{10, runner(0, 0), 1, none},
		{1, runner(0, 3), 1, none},
		{1001, runner(0, 3), 1, none},
	}
	for _, c := range cases {
		num, den, ok := impl.TimeOfLaps(c.lap, c.r, c.laps)
		wantPart(t, "TimeOfLaps", num, den, ok, c.want)
	}
}

func TestRunnersText(t *testing.T) {
	cases := []struct {
		list []impl.Runner
		text string
	}{
		{twoRunners, "0>3,0>1"},
		{runners(0, 1), "0>1"},
		{runners(999, 100), "999>100"},
		{runners(10, 20, 5, 7, 10, 20), "10>20,5>7,10>20"},
		{sameRunners(6), "0>1,0>1,0>1,0>1,0>1,0>1"},
	}
	for _, c := range cases {
		if text, ok := impl.RunnersText(c.list); !ok || text != c.text {
			t.Errorf("RunnersText %v: got %q, %v", c.list, text, ok)
		}
		if list, ok := impl.ParseRunners(c.text); !ok || !slices.Equal(list, c.list) {
			t.Errorf("ParseRunners %q: got %v, %v", c.text, list, ok)
		}
	}
	bad := [][]impl.Runner{nil, {}, sameRunners(7), runners(1000, 1), runners(0, 1, -1, 1), runners(0, 0), runners(0, 101)}
	for _, list := range bad {
		if text, ok := impl.RunnersText(list); ok || text != "" {
			t.Errorf("RunnersText %v: got %q, %v", list, text, ok)
		}
	}
}

func TestParseRunnersOfNoText(t *testing.T) {
	for _, text := range []string{"", ",", ">", "0", "0>", ">3", "0>3,", ",0>3", "0>3,,1>1", "0>3, 1>1", " 0>3", "0>3 ", "0>3\n",
		"0>3\x00", "+0>3", "0>+3", "00>3", "0>03", "-0>3", "-1>3", "0>-3", "0>0", "1000>1", "0>101", "0>3;1>2", "0:3", "0<3", "0>3>4",
		"0>>3", "a>b", "0x1>2", "1_0>2", "1.0>2", "\xff>2", "３>2", "0>3,x", "9223372036854775808>1", "0>18446744073709551617",
		"0>1,0>1,0>1,0>1,0>1,0>1,0>1", strings.Repeat("9", 10000) + ">1", strings.Repeat(",", 100000), strings.Repeat("0>1,", 100000)} {
		if list, ok := impl.ParseRunners(text); ok || list != nil {
			t.Errorf("ParseRunners %.40q: got %v, %v", text, list, ok)
		}
	}
}
