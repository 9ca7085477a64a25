package tests

import (
	"math"
	"slices"
	"sync"
	"testing"

	"loop.example/g01335/impl"
)

// oddRuns are at, beside and far from the limits of chapter 3.
var oddRuns = []int{math.MinInt, math.MinInt + 1, -1001, -1, 0, 1, 2, 3, 5, 6, 99, 100, 101, 999, 1000, 1001,
	10000, 10001, 1000000, 1000001, math.MaxInt - 1, math.MaxInt}

func oddRunners() []impl.Runner {
	var list []impl.Runner
	for _, start := range oddRuns {
		for _, speed := range oddRuns {
			list = append(list, runner(start, speed))
		}
	}
	return list
}

func isRunning(lap int, list ...impl.Runner) bool {
	valid := isIn(lap, 2, 1000) && isIn(len(list), 1, 6)
	for _, r := range list {
		valid = valid && r.Start >= 0 && r.Start < lap && isIn(r.Speed, 1, 100)
	}
	return valid
}

// wantSuccess holds a call to succeeding just when it must, and to returning 0 when it fails.
func wantSuccess(t *testing.T, what string, must bool, got int, ok bool) {
	t.Helper()
	if ok != must || !ok && got != 0 {
		t.Errorf("%s: got %d, %v, not %v", what, got, ok, must)
	}
}

// wantList holds a call to returning nothing when it fails, and to failing just when it must.
func wantList(t *testing.T, what string, must bool, got []int, ok bool) {
	t.Helper()
	if ok != must || !ok && len(got) > 0 {
		t.Errorf("%s: got %d numbers, %v, not %v", what, len(got), ok, must)
	}
}

func TestOneRunnerTakesAllArguments(t *testing.T) {
	for _, lap := range oddRuns {
		for _, r := range oddRunners() {
			valid := isRunning(lap, r)
			for _, n := range oddRuns {
				got, ok := impl.PlaceOnTrack(lap, r, n)
				wantSuccess(t, "PlaceOnTrack", valid && isIn(n, 0, 1000000), got, ok)
				got, ok = impl.LapsAt(lap, r, n)
				wantSuccess(t, "LapsAt", valid && isIn(n, 0, 1000000), got, ok)
				num, den, ok := impl.TimeOfLaps(lap, r, n)
				wantOk(t, "TimeOfLaps", valid && isIn(n, 1, 100), num, den, ok)
			}
		}
	}
}

func TestTwoRunnersTakeAllArguments(t *testing.T) {
	for _, lap := range oddRuns {
		for _, r := range oddRunners() {
			for _, s := range append(runners(1, 1), badRunners...) {
				takePair(t, lap, r, s)
				takePair(t, lap, s, r)
			}
		}
	}
}

func takePair(t *testing.T, lap int, r impl.Runner, s impl.Runner) {
	t.Helper()
	valid := isRunning(lap, r, s)
	time, place, ok := impl.FirstMeet(lap, r, s)
	wantSuccess(t, "FirstMeet", ok && valid, time, ok)
	wantSuccess(t, "FirstMeet's place", ok && valid, place, ok)
	places, ok := impl.MeetingPlaces(lap, r, s)
	wantList(t, "MeetingPlaces", valid, places, ok)
	for _, n := range oddRuns {
		got, ok := impl.LeadBetween(lap, r, s, n)
		wantSuccess(t, "LeadBetween", valid && isIn(n, 0, 1000000), got, ok)
		got, ok = impl.CountOvertakings(lap, r, s, n)
		wantSuccess(t, "CountOvertakings", valid && isIn(n, 0, 1000000), got, ok)
		got, ok = impl.HandicapFor(lap, r, s, n)
		wantSuccess(t, "HandicapFor", valid && isIn(n, 1, 100) && n*lap%r.Speed == 0, got, ok)
		times, ok := impl.MeetingTimes(lap, r, s, n)
		wantList(t, "MeetingTimes", valid && isIn(n, 0, 10000), times, ok)
	}
}

// oddFields have one runner of each kind at each index, and all lengths.
func oddFields() [][]impl.Runner {
	fields := [][]impl.Runner{nil, {}, make([]impl.Runner, 3), sameRunners(100000)}
	for count := 1; count <= 7; count++ {
		fields = append(fields, sameRunners(count))
	}
	for _, r := range oddRunners() {
		fields = append(fields, []impl.Runner{r}, []impl.Runner{r, runner(1, 2)}, []impl.Runner{runner(0, 1), r, runner(1, 2)},
			append(sameRunners(5), r), append(sameRunners(6), r))
	}
	return fields
}

func TestListsOfRunnersTakeAllArguments(t *testing.T) {
	for _, list := range oddFields() {
		for _, lap := range oddRuns {
			takeField(t, lap, list)
		}
		valid := isRunning(1000, list...)
		if text, ok := impl.RunnersText(list); ok != valid || (text != "") != valid {
			t.Errorf("RunnersText %v: got %q, %v", list, text, ok)
		}
	}
}

func takeField(t *testing.T, lap int, list []impl.Runner) {
	t.Helper()
	valid := isRunning(lap, list...)
	if impl.AreRunners(lap, list) != valid {
		t.Errorf("AreRunners %d %v: got %v", lap, list, !valid)
	}
	got, ok := impl.RunPeriod(lap, list)
	wantSuccess(t, "RunPeriod", valid, got, ok)
	got, ok = impl.AllRunnersTogether(lap, list)
	wantSuccess(t, "AllRunnersTogether", ok && valid, got, ok)
	for _, n := range oddRuns {
		order, ok := impl.OrderOnTrack(lap, list, n)
		wantList(t, "OrderOnTrack", valid && isIn(n, 0, 1000000), order, ok)
		winners, ok := impl.WinnerOfLaps(lap, list, n)
		wantList(t, "WinnerOfLaps", valid && isIn(n, 1, 100), winners, ok)
		known := valid && len(list) > 1 && isIn(n, 0, len(list)-1)
		got, ok = impl.LonelyTime(lap, list, n)
		wantSuccess(t, "LonelyTime", known, got, ok)
		got, ok = impl.NearestOthers(lap, list, n, 7)
		wantSuccess(t, "NearestOthers", known, got, ok)
		got, ok = impl.NearestOthers(lap, list, 0, n)
		wantSuccess(t, "NearestOthers at a time", valid && len(list) > 1 && isIn(n, 0, 1000000), got, ok)
	}
}

// askField asks all that is asked of lists of runners, and spoils what is returned.
func askField(t *testing.T, list []impl.Runner) {
	t.Helper()
	order, ok := impl.OrderOnTrack(10, list, 2)
	wantNumbers(t, "OrderOnTrack", order, ok, []int{2, 0, 1})
	spoil(order)
	winners, ok := impl.WinnerOfLaps(10, list, 1)
	wantNumbers(t, "WinnerOfLaps", winners, ok, []int{0, 2})
	spoil(winners)
	times, ok := impl.MeetingTimes(10, list[0], list[1], 12)
	wantNumbers(t, "MeetingTimes", times, ok, []int{0, 5, 10})
	spoil(times)
	places, ok := impl.MeetingPlaces(10, list[0], list[1])
	wantNumbers(t, "MeetingPlaces", places, ok, []int{0, 5})
	spoil(places)
	n, ok := impl.RunPeriod(10, list)
	wantInt(t, "RunPeriod", n, ok, 10)
	n, ok = impl.AllRunnersTogether(10, list)
	wantInt(t, "AllRunnersTogether", n, ok, fails)
	n, ok = impl.NearestOthers(10, list, 1, 2)
	wantInt(t, "NearestOthers", n, ok, 2)
	n, ok = impl.LonelyTime(10, list, 0)
	wantInt(t, "LonelyTime", n, ok, 2)
	text, ok := impl.RunnersText(list)
	again, parsed := impl.ParseRunners(text)
	if !ok || !parsed || !slices.Equal(again, list) {
		t.Errorf("RunnersText: got %q, %v", text, ok)
	}
	clear(again[:cap(again)])
}

// TestRunnersAreNotModified looks at the spare capacity behind the runners too, which is neither read nor written.
func TestRunnersAreNotModified(t *testing.T) {
	whole := append(runners(0, 3, 0, 1, 4, 3), badRunners...)
	kept := slices.Clone(whole)
	for range 2 {
		askField(t, whole[:3])
	}
	if !slices.Equal(whole, kept) {
		t.Errorf("the runners have become %v", whole)
	}
}

// TestRunnersAtOnce asks from several goroutines at once: no call knows of another one.
func TestRunnersAtOnce(t *testing.T) {
	list := runners(0, 3, 0, 1, 4, 3)
	var group sync.WaitGroup
	for range 8 {
		group.Go(func() {
			for range 50 {
				askField(t, list)
			}
		})
	}
	group.Wait()
}
