package tests

import (
	"math"
	"slices"
	"sync"
	"testing"

	"loop.example/g01335/impl"
)

// oddRates are at, beside and far from the limits of chapter 5.
var oddRates = []int{math.MinInt, math.MinInt + 1, -1001, -100, -1, 0, 1, 2, 11, 12, 13, 99, 100, 101, 999, 1000, 1001,
	9999, 10000, 10001, 99999, 100000, 100001, 1 << 32, math.MaxInt - 1, math.MaxInt}

func oddTrains() []impl.Train {
	var list []impl.Train
	for _, length := range oddRates {
		for _, rate := range oddRates {
			list = append(list, train(length, rate))
		}
	}
	return list
}

func isOnRails(t impl.Train) bool { return isIn(t.Length, 1, 1000) && isIn(t.Rate, 1, 100) }

func TestOneTrainTakesAllArguments(t *testing.T) {
	for _, one := range oddTrains() {
		valid := isOnRails(one)
		if impl.IsTrain(one) != valid {
			t.Errorf("IsTrain %v: got %v", one, !valid)
		}
		if text, ok := impl.TrainText(one); ok != valid || (text != "") != valid {
			t.Errorf("TrainText %v: got %q, %v", one, text, ok)
		}
		num, den, ok := impl.PolePassing(one)
		wantOk(t, "PolePassing", valid, num, den, ok)
		for _, n := range oddRates {
			num, den, ok = impl.BridgePassing(one, n)
			wantOk(t, "BridgePassing", valid && isIn(n, 0, 100000), num, den, ok)
			num, den, ok = impl.InsideTunnel(one, n)
			wantOk(t, "InsideTunnel", valid && isIn(n, one.Length, 100000), num, den, ok)
			num, den, ok = impl.PassWalker(one, n, true)
			wantOk(t, "PassWalker, against", valid && isIn(n, 1, 100), num, den, ok)
			num, den, ok = impl.PassWalker(one, n, false)
			wantOk(t, "PassWalker, the same way", valid && isIn(n, 1, one.Rate-1), num, den, ok)
		}
	}
}

func TestTwoTrainsTakeAllArguments(t *testing.T) {
	for _, s := range oddTrains() {
		for _, u := range slices.Concat(goodTrains, badTrains) {
			takeTrains(t, s, u)
			takeTrains(t, u, s)
		}
	}
}

func takeTrains(t *testing.T, s impl.Train, u impl.Train) {
	t.Helper()
	valid := isOnRails(s) && isOnRails(u)
	num, den, ok := impl.PassEachOther(s, u)
	wantOk(t, "PassEachOther", valid, num, den, ok)
	num, den, ok = impl.PassOvertaking(s, u)
	wantOk(t, "PassOvertaking", valid && s.Rate > u.Rate, num, den, ok)
	num, den, ok = impl.SeenFromTrain(s, u, true)
	wantOk(t, "SeenFromTrain, against", valid, num, den, ok)
	num, den, ok = impl.SeenFromTrain(s, u, false)
	wantOk(t, "SeenFromTrain, the same way", valid && s.Rate != u.Rate, num, den, ok)
	for _, n := range oddRates {
		long := isIn(n, 0, 100000)
		num, den, wayNum, wayDen, ok := impl.MeetAfter(s, u, n)
		wantOk(t, "MeetAfter, time", valid && long, num, den, ok)
		wantOk(t, "MeetAfter, way", valid && long, wayNum, wayDen, ok)
		num, den, wayNum, wayDen, ok = impl.OvertakeAfter(s, u, n)
		wantOk(t, "OvertakeAfter, time", valid && long && (n == 0 || s.Rate > u.Rate), num, den, ok)
		wantOk(t, "OvertakeAfter, way", valid && long && (n == 0 || s.Rate > u.Rate), wayNum, wayDen, ok)
		num, den, ok = impl.LeastHeadway(s, u, n)
		wantOk(t, "LeastHeadway", valid && long && n >= s.Length, num, den, ok)
	}
}

func TestTrainTimesTakeAllArguments(t *testing.T) {
	isTime := func(n int) bool { return isIn(n, 1, 10000) }
	for _, a := range oddRates {
		for _, b := range oddRates {
			n, ok := impl.CountTrainsMet(a, b, true)
			wantSuccess(t, "CountTrainsMet", isTime(a) && isTime(b), n, ok)
			between, ok := impl.CountTrainsMet(a, b, false)
			wantSuccess(t, "CountTrainsMet between the ends", isTime(a) && isTime(b), between, ok)
			if ok && (n%2 != 1 || between%2 != 1 || n-between != 0 && n-between != 2) {
				t.Errorf("CountTrainsMet %d %d: got %d, and %d between the ends", a, b, n, between)
			}
			for _, c := range oddRates {
				num, den, ok := impl.MetAt(a, b, c)
				wantOk(t, "MetAt", isTime(a) && isTime(b) && isIn(c, 0, 10000) && c*b <= a, num, den, ok)
				num, den, rateNum, rateDen, ok := impl.TrainFromTimes(a, b, c)
				must := isIn(a, 1, 100000) && isTime(b) && isTime(c) && b < c
				wantOk(t, "TrainFromTimes, length", must, num, den, ok)
				wantOk(t, "TrainFromTimes, rate", must, rateNum, rateDen, ok)
			}
		}
	}
}

// oddSidings have one train of each kind at each index, and all lengths.
func oddSidings() [][]impl.Train {
	lists := [][]impl.Train{nil, {}, make([]impl.Train, 3), sameTrains(100000, 1)}
	for count := 1; count <= 13; count++ {
		lists = append(lists, sameTrains(count, 100))
	}
	for _, one := range oddTrains() {
		lists = append(lists, []impl.Train{one}, []impl.Train{one, slowTrain}, []impl.Train{fastTrain, one, slowTrain},
			append(sameTrains(11, 1000), one), append(sameTrains(12, 1000), one))
	}
	return lists
}

func TestSidingsTakeAllArguments(t *testing.T) {
	for _, list := range oddSidings() {
		valid := isIn(len(list), 1, 12)
		for _, one := range list {
			valid = valid && isOnRails(one)
		}
		for _, n := range oddRates {
			must := valid && isIn(n, 0, 100000)
			most, ok := impl.MostInSiding(list, n)
			wantList(t, "MostInSiding", must, most, ok)
			if fits, ok := impl.FitsSiding(list, n); ok != must || fits != (must && len(most) == len(list)) {
				t.Errorf("FitsSiding %v %d: got %v, %v", list, n, fits, ok)
			}
		}
	}
}

// askSiding asks all that is asked of lists of trains, and spoils what is returned.
func askSiding(t *testing.T, list []impl.Train) {
	t.Helper()
	most, ok := impl.MostInSiding(list, 180)
	wantNumbers(t, "MostInSiding", most, ok, []int{1, 2})
	spoil(most)
	most, ok = impl.MostInSiding(list, 100000)
	wantNumbers(t, "MostInSiding", most, ok, []int{0, 1, 2})
	spoil(most)
	if fits, ok := impl.FitsSiding(list, 300); !ok || !fits {
		t.Errorf("FitsSiding 300: got %v, %v", fits, ok)
	}
	if fits, ok := impl.FitsSiding(list, 299); !ok || fits {
		t.Errorf("FitsSiding 299: got %v, %v", fits, ok)
	}
}

// TestTrainsAreNotModified looks at the spare capacity behind the trains too, which is neither read nor written.
func TestTrainsAreNotModified(t *testing.T) {
	whole := append(trains(120, 80, 100), badTrains...)
	kept := slices.Clone(whole)
	for range 2 {
		askSiding(t, whole[:3])
	}
	if !slices.Equal(whole, kept) {
		t.Errorf("the trains have become %v", whole)
	}
}

// TestTrainsAtOnce asks from several goroutines at once: no call knows of another one.
func TestTrainsAtOnce(t *testing.T) {
	list := trains(120, 80, 100)
	var group sync.WaitGroup
	for range 8 {
		group.Go(func() {
			for range 100 {
				askSiding(t, list)
			}
		})
	}
	group.Wait()
}
