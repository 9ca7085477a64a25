package tests

import (
	"math"
	"slices"
	"sync"
	"testing"

	"loop.example/g01335/impl"
)

// oddPieces are at, beside and far from the limits of chapter 6.
var oddPieces = []int{math.MinInt, math.MinInt + 1, -1001, -100, -1, 0, 1, 2, 5, 6, 7, 99, 100, 101, 999, 1000, 1001,
	99999, 100000, 100001, 1 << 32, math.MaxInt - 1, math.MaxInt}

func isLegFast(n int) bool { return isIn(n, 1, 100) }

func isLegLong(n int) bool { return isIn(n, 1, 1000) }

func areOnLegs(list []impl.Leg) bool {
	for _, l := range list {
		if !isLegLong(l.Long) || !isLegFast(l.Fast) {
			return false
		}
	}
	return isIn(len(list), 1, 5)
}

// oddWays have one leg of each kind at each index, and all lengths.
func oddWays() [][]impl.Leg {
	lists := [][]impl.Leg{nil, {}, make([]impl.Leg, 3), sameLegs(100000, 1, 1)}
	for count := 1; count <= 6; count++ {
		lists = append(lists, sameLegs(count, 200, 100))
	}
	for _, long := range oddPieces {
		for _, fast := range oddPieces {
			one := leg(long, fast)
			lists = append(lists, []impl.Leg{one}, []impl.Leg{one, leg(60, 20)}, []impl.Leg{leg(60, 30), one, leg(60, 20)},
				append(sameLegs(4, 1, 100), one), append(sameLegs(5, 1, 100), one))
		}
	}
	return lists
}

func TestLegsTakeAllArguments(t *testing.T) {
	for _, list := range oddWays() {
		valid := areOnLegs(list)
		takeLegs(t, list, valid)
		for _, a := range oddPieces {
			for _, b := range oddPieces {
				takeLegTime(t, list, valid, a, b)
			}
		}
	}
}

func takeLegs(t *testing.T, list []impl.Leg, valid bool) {
	t.Helper()
	if impl.AreLegs(list) != valid {
		t.Errorf("AreLegs %.6v: got %v", list, !valid)
	}
	n, ok := impl.LongOfLegs(list)
	wantSuccess(t, "LongOfLegs", valid, n, ok)
	num, den, ok := impl.TimeOfLegs(list)
	wantOk(t, "TimeOfLegs", valid, num, den, ok)
	num, den, ok = impl.MeanSpeed(list)
	wantOk(t, "MeanSpeed", valid, num, den, ok)
	n, ok = impl.SlowestLeg(list)
	wantSuccess(t, "SlowestLeg", valid, n, ok)
	rows, ok := impl.TimesOfLegs(list)
	if ok != valid || !valid && rows != nil || valid && len(rows) != len(list) {
		t.Errorf("TimesOfLegs %.6v: got %v, %v", list, rows, ok)
	}
	joined, ok := impl.JoinLegs(list)
	if ok && !valid || ok != (joined != nil) || ok && (!areOnLegs(joined) || len(joined) > len(list)) {
		t.Errorf("JoinLegs %.6v: got %v, %v", list, joined, ok)
	}
	if text, ok := impl.LegsText(list); ok != valid || (text != "") != valid {
		t.Errorf("LegsText %.6v: got %q, %v", list, text, ok)
	}
}

func takeLegTime(t *testing.T, list []impl.Leg, valid bool, a int, b int) {
	t.Helper()
	isTime := isIn(a, 0, 100000) && isIn(b, 1, 1000)
	num, den, ok := impl.PlaceOnLegs(list, a, b)
	wantOk(t, "PlaceOnLegs", valid && isTime, num, den, ok)
	n, ok := impl.LegAt(list, a, b)
	wantSuccess(t, "LegAt", valid && isTime, n, ok)
	if ok && !isIn(n, 0, len(list)-1) {
		t.Errorf("LegAt %v %d %d: got %d", list, a, b, n)
	}
	num, den, ok = impl.NeededSpeed(list, a, b)
	wantOk(t, "NeededSpeed", ok && valid && isLegLong(a) && isLegFast(b), num, den, ok)
	if ok && num <= 0 {
		t.Errorf("NeededSpeed %v %d %d: got %d / %d", list, a, b, num, den)
	}
}

func TestSpeedsTakeAllArguments(t *testing.T) {
	for _, n := range oddPieces {
		for count := range 8 {
			speeds := make([]int, count)
			for k := range speeds {
				speeds[k] = 30
			}
			takeSpeeds(t, speeds)
			for k := range speeds {
				one := slices.Clone(speeds)
				one[k] = n
				takeSpeeds(t, one)
				takeRelay(t, one, speeds)
				takeRelay(t, speeds, one)
				takeRelay(t, one, speeds[1:])
				takeRelay(t, speeds[1:], one)
			}
		}
	}
	takeSpeeds(t, nil)
	takeRelay(t, nil, nil)
	takeRelay(t, make([]int, 100000), make([]int, 100000))
}

func takeSpeeds(t *testing.T, speeds []int) {
	t.Helper()
	valid := isIn(len(speeds), 1, 5) && !slices.ContainsFunc(speeds, func(n int) bool { return !isLegFast(n) })
	num, den, ok := impl.MeanByTimes(speeds)
	wantOk(t, "MeanByTimes", valid, num, den, ok)
	num, den, ok = impl.MeanByHalves(speeds)
	wantOk(t, "MeanByHalves", valid, num, den, ok)
}

func takeRelay(t *testing.T, longs []int, speeds []int) {
	t.Helper()
	valid := isIn(len(longs), 1, 6) && len(speeds) == len(longs) &&
		!slices.ContainsFunc(longs, func(n int) bool { return !isLegLong(n) }) &&
		!slices.ContainsFunc(speeds, func(n int) bool { return !isLegFast(n) })
	order, ok := impl.BestRunners(longs, speeds)
	wantOrder(t, "BestRunners", valid, len(longs), order, ok)
	order, ok = impl.WorstRunners(longs, speeds)
	wantOrder(t, "WorstRunners", valid, len(longs), order, ok)
}

// wantOrder holds a call to failing just when it must, and else to telling each runner once.
func wantOrder(t *testing.T, what string, must bool, count int, order []int, ok bool) {
	t.Helper()
	wantList(t, what, must, order, ok)
	if !ok {
		return
	}
	sorted := slices.Sorted(slices.Values(order))
	for k := range count {
		if len(order) != count || sorted[k] != k {
			t.Errorf("%s: got %v for %d legs", what, order, count)
			return
		}
	}
}

func TestBicyclesTakeAllArguments(t *testing.T) {
	for _, long := range oddPieces {
		for _, a := range oddPieces {
			for _, wheel := range oddPieces {
				must := isLegLong(long) && isLegFast(a) && isLegFast(wheel) && a < wheel
				num, den, timeNum, timeDen, ok := impl.SharedBicycle(long, a, wheel)
				wantOk(t, "SharedBicycle, place", must, num, den, ok)
				wantOk(t, "SharedBicycle, time", must, timeNum, timeDen, ok)
				for _, b := range oddPieces {
					both := must && isLegFast(b) && b < wheel
					num, den, timeNum, timeDen, ok := impl.RideAndWalk(long, a, b, wheel)
					wantOk(t, "RideAndWalk, place", both, num, den, ok)
					wantOk(t, "RideAndWalk, time", both, timeNum, timeDen, ok)
				}
			}
		}
	}
}

// askLegs asks all that is asked of lists of legs, and spoils what is returned.
func askLegs(t *testing.T, list []impl.Leg) {
	t.Helper()
	checkTimesOfLegs(t, list, 160, part{7, 1}, part{160, 7}, [][]int{{2, 1}, {5, 1}, {7, 1}})
	rows, _ := impl.TimesOfLegs(list)
	spoilRows(t, rows)
	checkPlaceAt(t, newTrip(list), 5, 1)
	checkPlaceAt(t, newTrip(list), 9, 1)
	n, ok := impl.SlowestLeg(list)
	wantInt(t, "SlowestLeg", n, ok, 1)
	num, den, ok := impl.NeededSpeed(list, 20, 18)
	wantPart(t, "NeededSpeed", num, den, ok, part{20, 3})
	text, ok := impl.LegsText(list)
	if !ok || text != "60/30+60/20+40/20" {
		t.Errorf("LegsText: got %q, %v", text, ok)
	}
	for range 2 {
		joined, ok := impl.JoinLegs(list)
		wantLegs(t, "JoinLegs", joined, ok, legs(60, 30, 100, 20))
		spoilLegs(joined)
		parsed, ok := impl.ParseLegs(text)
		wantLegs(t, "ParseLegs", parsed, ok, legs(60, 30, 60, 20, 40, 20))
		spoilLegs(parsed)
		// Legs of which none are joined are no part of the argument either.
		joined, ok = impl.JoinLegs(list[:2])
		wantLegs(t, "JoinLegs", joined, ok, twoLegs)
		spoilLegs(joined)
	}
}

// spoilLegs writes behind the legs that are returned too.
func spoilLegs(list []impl.Leg) {
	list = list[:cap(list)]
	for k := range list {
		list[k] = leg(-7, -7)
	}
}

// askRunners asks all that is asked of speeds, and spoils what is returned.
func askRunners(t *testing.T, longs []int, speeds []int) {
	t.Helper()
	order, ok := impl.BestRunners(longs, speeds)
	wantNumbers(t, "BestRunners", order, ok, []int{2, 0, 1})
	spoil(order)
	order, ok = impl.WorstRunners(longs, speeds)
	wantNumbers(t, "WorstRunners", order, ok, []int{1, 0, 2})
	spoil(order)
	num, den, ok := impl.MeanByTimes(speeds)
	wantPart(t, "MeanByTimes", num, den, ok, part{4, 1})
	num, den, ok = impl.MeanByHalves(speeds)
	wantPart(t, "MeanByHalves", num, den, ok, part{180, 47})
}

// TestLegsAreNotModified looks at the spare capacity behind the lists too, which is neither read nor written.
func TestLegsAreNotModified(t *testing.T) {
	whole := append(legs(60, 30, 60, 20, 40, 20), badLegs...)
	longs, speeds := []int{30, 20, 10, -7, 2000}, []int{4, 3, 5, -7, 2000}
	kept, keptLongs, keptSpeeds := slices.Clone(whole), slices.Clone(longs), slices.Clone(speeds)
	for range 2 {
		askLegs(t, whole[:3])
		askRunners(t, longs[:3], speeds[:3])
	}
	if !slices.Equal(whole, kept) || !slices.Equal(longs, keptLongs) || !slices.Equal(speeds, keptSpeeds) {
		t.Errorf("the lists have become %v, %v and %v", whole, longs, speeds)
	}
}

// TestLegsAtOnce asks from several goroutines at once: no call knows of another one.
func TestLegsAtOnce(t *testing.T) {
	list, longs, speeds := legs(60, 30, 60, 20, 40, 20), []int{30, 20, 10}, []int{4, 3, 5}
	var group sync.WaitGroup
	for range 8 {
		group.Go(func() {
			for range 100 {
				askLegs(t, list)
				askRunners(t, longs, speeds)
			}
		})
	}
	group.Wait()
}
