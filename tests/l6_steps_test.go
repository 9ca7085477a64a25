package tests

import (
	"math/big"
	"slices"
	"testing"

	"loop.example/g01335/impl"
)

// trip is one who goes on legs, to hold the answers of chapter 6 against: each leg is gone with what is left of the time.
type trip struct {
	legs []impl.Leg
	ends []*big.Rat
}

func newTrip(list []impl.Leg) trip {
	tr, now := trip{legs: list}, rat(0, 1)
	for _, l := range list {
		now = plus(now, rat(l.Long, l.Fast))
		tr.ends = append(tr.ends, now)
	}
	return tr
}

func (tr trip) time() *big.Rat { return tr.ends[len(tr.ends)-1] }

func (tr trip) long() int {
	long := 0
	for _, l := range tr.legs {
		long += l.Long
	}
	return long
}

// placeAt returns where one is when a time is over, and on which leg.
func (tr trip) placeAt(left *big.Rat) (*big.Rat, int) {
	place := rat(0, 1)
	for k, l := range tr.legs {
		whole := rat(l.Long, l.Fast)
		if left.Cmp(whole) < 0 {
			return plus(place, times(left, rat(l.Fast, 1))), k
		}
		left = minus(left, whole)
		place = plus(place, rat(l.Long, 1))
	}
	return place, len(tr.legs) - 1
}

func (d *drawer) legs(long int, fast int) []impl.Leg {
	list := make([]impl.Leg, d.draw(1, 5))
	for k := range list {
		list[k] = leg(d.draw(1, long), d.draw(1, fast))
	}
	return list
}

func TestLegsAgainstTrips(t *testing.T) {
	d := drawer{z: 18}
	for range 3000 {
		for _, list := range [][]impl.Leg{d.legs(1000, 100), d.legs(9, 4), d.legs(1000, 3), d.legs(3, 100)} {
			tr := newTrip(list)
			checkEnds(t, tr)
			checkSlowest(t, tr)
			checkPlaceAt(t, tr, d.draw(0, 100000), d.draw(1, 1000))
			checkPlaceAt(t, tr, d.draw(0, 1000), d.draw(1, 1000))
			checkPlaceAt(t, tr, d.draw(0, 20), d.draw(1, 4))
			checkNeeded(t, tr, d.draw(1, 1000), d.draw(1, 100))
			checkNeeded(t, tr, d.draw(1, 9), d.draw(1, 4))
		}
	}
}

func checkEnds(t *testing.T, tr trip) {
	t.Helper()
	rows := [][]int{}
	for _, end := range tr.ends {
		p := partOfRat(end)
		rows = append(rows, []int{p.num, p.den})
		checkAround(t, tr, p)
	}
	mean := divide(rat(tr.long(), 1), tr.time())
	checkTimesOfLegs(t, tr.legs, tr.long(), partOfRat(tr.time()), partOfRat(mean), rows)
}

// checkAround looks at the end of a leg, and just before and behind it, if there are such times.
func checkAround(t *testing.T, tr trip, end part) {
	t.Helper()
	for _, scale := range []int{1, min(1000/end.den, 100000/end.num)} {
		if scale > 0 && end.num*scale < 100000 && end.den*scale <= 1000 {
			checkPlaceAt(t, tr, end.num*scale-1, end.den*scale)
			checkPlaceAt(t, tr, end.num*scale, end.den*scale)
			checkPlaceAt(t, tr, end.num*scale+1, end.den*scale)
		}
	}
}

func checkPlaceAt(t *testing.T, tr trip, num int, den int) {
	t.Helper()
	place, k := tr.placeAt(rat(num, den))
	placeNum, placeDen, ok := impl.PlaceOnLegs(tr.legs, num, den)
	wantPart(t, "PlaceOnLegs", placeNum, placeDen, ok, partOfRat(place))
	n, ok := impl.LegAt(tr.legs, num, den)
	wantInt(t, "LegAt", n, ok, k)
}

func checkSlowest(t *testing.T, tr trip) {
	t.Helper()
	slowest, most := 0, rat(0, 1)
	for k, l := range tr.legs {
		if time := rat(l.Long, l.Fast); time.Cmp(most) > 0 {
			slowest, most = k, time
		}
	}
	n, ok := impl.SlowestLeg(tr.legs)
	wantInt(t, "SlowestLeg", n, ok, slowest)
}

// checkNeeded goes on with the speed that is told, so that the mean is the one that was asked for.
func checkNeeded(t *testing.T, tr trip, long int, mean int) {
	t.Helper()
	whole := rat(tr.long()+long, 1)
	canBe := whole.Cmp(times(tr.time(), rat(mean, 1))) > 0
	num, den, ok := impl.NeededSpeed(tr.legs, long, mean)
	wantOk(t, "NeededSpeed", canBe, num, den, ok)
	if !ok {
		return
	}
	time := plus(tr.time(), divide(rat(long, 1), rat(num, den)))
	if divide(whole, time).Cmp(rat(mean, 1)) != 0 {
		t.Errorf("NeededSpeed %v %d %d: got %d / %d", tr.legs, long, mean, num, den)
	}
}

// TestTimesOfLegsAddUp cuts legs in two, and goes on both parts.
func TestTimesOfLegsAddUp(t *testing.T) {
	d := drawer{z: 19}
	for range 5000 {
		list := d.legs(1000, 100)
		num, den, ok := impl.TimeOfLegs(list)
		wantOk(t, "TimeOfLegs", true, num, den, ok)
		whole := rat(num, den)
		for cut := 1; cut < len(list); cut++ {
			oneNum, oneDen, ok := impl.TimeOfLegs(list[:cut])
			wantOk(t, "TimeOfLegs", true, oneNum, oneDen, ok)
			twoNum, twoDen, ok := impl.TimeOfLegs(list[cut:])
			wantOk(t, "TimeOfLegs", true, twoNum, twoDen, ok)
			if plus(rat(oneNum, oneDen), rat(twoNum, twoDen)).Cmp(whole) != 0 {
				t.Errorf("TimeOfLegs %v: got %v, but %d / %d and %d / %d", list, whole, oneNum, oneDen, twoNum, twoDen)
			}
		}
		// Another order of the legs takes as long.
		slices.Reverse(list)
		again, denAgain, ok := impl.TimeOfLegs(list)
		wantPart(t, "TimeOfLegs", again, denAgain, ok, part{num, den})
	}
}

func TestMeansAgainstTrips(t *testing.T) {
	d := drawer{z: 20}
	for range 10000 {
		speeds := make([]int, d.draw(1, 5))
		sum, inverses := rat(0, 1), rat(0, 1)
		for k := range speeds {
			speeds[k] = d.draw(1, 100)
			sum, inverses = plus(sum, rat(speeds[k], 1)), plus(inverses, rat(1, speeds[k]))
		}
		byTimes, byHalves := divide(sum, rat(len(speeds), 1)), divide(rat(len(speeds), 1), inverses)
		num, den, ok := impl.MeanByTimes(speeds)
		wantPart(t, "MeanByTimes", num, den, ok, partOfRat(byTimes))
		halvesNum, halvesDen, ok := impl.MeanByHalves(speeds)
		wantPart(t, "MeanByHalves", halvesNum, halvesDen, ok, partOfRat(byHalves))
		if rat(halvesNum, halvesDen).Cmp(rat(num, den)) > 0 {
			t.Errorf("MeanByHalves %v is greater than MeanByTimes", speeds)
		}
	}
}

// eachOrder lets runners be chosen for one leg behind the other, from the first one on.
func eachOrder(count int, chosen []int, each func(order []int)) {
	if len(chosen) == count {
		each(chosen)
		return
	}
	for runner := range count {
		if !slices.Contains(chosen, runner) {
			eachOrder(count, append(slices.Clone(chosen), runner), each)
		}
	}
}

func checkOrders(t *testing.T, longs []int, speeds []int) {
	t.Helper()
	var best, worst []int
	least, most := rat(0, 1), rat(0, 1)
	eachOrder(len(longs), nil, func(order []int) {
		time := rat(0, 1)
		for k, runner := range order {
			time = plus(time, rat(longs[k], speeds[runner]))
		}
		if c := time.Cmp(least); best == nil || c < 0 || c == 0 && slices.Compare(order, best) < 0 {
			best, least = order, time
		}
		if c := time.Cmp(most); worst == nil || c > 0 || c == 0 && slices.Compare(order, worst) < 0 {
			worst, most = order, time
		}
	})
	order, ok := impl.BestRunners(longs, speeds)
	wantNumbers(t, "BestRunners", order, ok, best)
	order, ok = impl.WorstRunners(longs, speeds)
	wantNumbers(t, "WorstRunners", order, ok, worst)
}

func TestRunnersOfLegsAgainstAllOrders(t *testing.T) {
	d := drawer{z: 21}
	for range 30 {
		for count := 1; count <= 6; count++ {
			for _, most := range []part{{1000, 100}, {3, 3}, {1000, 2}, {2, 100}} {
				longs, speeds := make([]int, count), make([]int, count)
				for k := range count {
					longs[k], speeds[k] = d.draw(1, most.num), d.draw(1, most.den)
				}
				checkOrders(t, longs, speeds)
			}
		}
	}
	for code := range power(9, 3) {
		longs := []int{1 + code%3, 1 + code/3%3, 1 + code/9%3}
		checkOrders(t, longs, []int{1 + code/27%3, 1 + code/81%3, 1 + code/243})
	}
}

// checkBicycle moves both: the first one rides up to the place and walks then, the second one walks up to it and rides then.
func checkBicycle(t *testing.T, what string, long int, a int, b int, wheel int, place part, time part) {
	t.Helper()
	before := rat(place.num, max(place.den, 1))
	behind := minus(rat(long, 1), before)
	first := plus(divide(before, rat(wheel, 1)), divide(behind, rat(a, 1)))
	second := plus(divide(before, rat(b, 1)), divide(behind, rat(wheel, 1)))
	if before.Sign() <= 0 || behind.Sign() <= 0 || first.Cmp(second) != 0 || partOfRat(first) != time {
		t.Errorf("%s %d %d %d %d: got the place %v and the time %v, but they need %v and %v", what, long, a, b, wheel, place, time, first, second)
	}
}

func TestBicyclesBringBothToTheEnd(t *testing.T) {
	d := drawer{z: 22}
	for wheel := 1; wheel <= 100; wheel++ {
		for a := 1; a <= 100; a++ {
			for _, b := range []int{1, 100, wheel - 1, d.draw(1, 100), d.draw(1, wheel)} {
				long := d.draw(1, 1000)
				must := a < wheel && isIn(b, 1, wheel-1)
				num, den, timeNum, timeDen, ok := impl.RideAndWalk(long, a, b, wheel)
				wantOk(t, "RideAndWalk, place", must, num, den, ok)
				wantOk(t, "RideAndWalk, time", must, timeNum, timeDen, ok)
				if ok {
					checkBicycle(t, "RideAndWalk", long, a, b, wheel, part{num, den}, part{timeNum, timeDen})
				}
			}
			checkShared(t, d.draw(1, 1000), a, wheel)
		}
	}
}

func checkShared(t *testing.T, long int, foot int, wheel int) {
	t.Helper()
	num, den, timeNum, timeDen, ok := impl.SharedBicycle(long, foot, wheel)
	wantOk(t, "SharedBicycle, place", foot < wheel, num, den, ok)
	wantOk(t, "SharedBicycle, time", foot < wheel, timeNum, timeDen, ok)
	if ok {
		checkBicycle(t, "SharedBicycle", long, foot, foot, wheel, part{num, den}, part{timeNum, timeDen})
	}
}

// TestJoinedLegsAgainstSteps takes all legs of a few lengths and speeds, and lets each one grow while the speed stays.
func TestJoinedLegsAgainstSteps(t *testing.T) {
	kinds := legs(1, 1, 1, 2, 400, 1, 400, 2, 600, 1, 600, 2, 1000, 1, 199, 3)
	for count := 1; count <= 5; count++ {
		for code := range power(len(kinds), count) {
			list := make([]impl.Leg, count)
			for k := range list {
				list[k] = kinds[code%len(kinds)]
				code /= len(kinds)
			}
			checkJoined(t, list)
		}
	}
}

func checkJoined(t *testing.T, list []impl.Leg) {
	t.Helper()
	want, tooLong := []impl.Leg{}, false
	for k, l := range list {
		if k > 0 && list[k-1].Fast == l.Fast {
			want[len(want)-1].Long += l.Long
		} else {
			want = append(want, l)
		}
		tooLong = tooLong || want[len(want)-1].Long > 1000
	}
	if tooLong {
		want = nil
	}
	joined, ok := impl.JoinLegs(list)
	wantLegs(t, "JoinLegs", joined, ok, want)
	if ok {
		num, den, _ := impl.TimeOfLegs(list)
		joinedNum, joinedDen, ok := impl.TimeOfLegs(joined)
		wantPart(t, "TimeOfLegs", joinedNum, joinedDen, ok, part{num, den})
	}
}

func TestLegsTextsThereAndBack(t *testing.T) {
	d := drawer{z: 23}
	for long := 1; long <= 1000; long++ {
		for fast := 1; fast <= 100; fast++ {
			list := []impl.Leg{leg(long, fast)}
			if long%7 == fast%7 {
				list = append(list, d.legs(1000, 100)[:1]...)
			}
			text, ok := impl.LegsText(list)
			if again, parsed := impl.ParseLegs(text); !ok || !parsed || !slices.Equal(again, list) {
				t.Fatalf("ParseLegs %q: got %v, %v, not %v", text, again, parsed, list)
			}
		}
	}
}
