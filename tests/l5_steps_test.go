package tests

import (
	"math/big"
	"slices"
	"testing"

	"loop.example/g01335/impl"
)

// mover is a point that goes on steadily, as fronts, last ends, windows, walkers and poles do, to hold the answers of chapter 5 against.
type mover struct {
	at   *big.Rat
	rate int
}

func pointAt(at int, rate int) mover { return mover{at: rat(at, 1), rate: rate} }

func (m mover) placeAt(time *big.Rat) *big.Rat {
	return plus(m.at, times(rat(m.rate, 1), time))
}

// meets returns when one point is at another one that goes on otherwise: before the time 0 perhaps.
func (m mover) meets(n mover) *big.Rat {
	return divide(minus(n.at, m.at), rat(m.rate-n.rate, 1))
}

// movedTrain is a train to the right, or to the left if its rate is less than 0.
type movedTrain struct {
	front, last mover
}

func rightTrain(t impl.Train, front int) movedTrain {
	return movedTrain{front: pointAt(front, t.Rate), last: pointAt(front-t.Length, t.Rate)}
}

func leftTrain(t impl.Train, front int) movedTrain {
	return movedTrain{front: pointAt(front, -t.Rate), last: pointAt(front+t.Length, -t.Rate)}
}

// passes returns how long a train passes something, from where its front comes to it to where its last end leaves it.
func (m movedTrain) passes(comes mover, leaves mover) part {
	return partOfRat(minus(m.last.meets(leaves), m.front.meets(comes)))
}

// eachRates takes each two rates once, with trains whose lengths are drawn.
func eachRates(z int, each func(d *drawer, s impl.Train, t impl.Train)) {
	d := drawer{z: z}
	for one := 1; one <= 100; one++ {
		for two := 1; two <= 100; two++ {
			each(&d, train(d.draw(1, 1000), one), train(d.draw(1, 1000), two))
		}
	}
}

func TestTrainsAgainstPoints(t *testing.T) {
	eachRates(13, func(d *drawer, s impl.Train, u impl.Train) {
		checkThings(t, s, d.draw(0, 3000))
		checkThings(t, u, d.draw(0, 100000))
		checkPassing(t, s, u)
		checkWalkers(t, s, u.Rate)
		checkGaps(t, s, u, d.draw(1, 100000))
	})
}

// checkThings holds a train to a pole, and to a bridge and a tunnel from 40 on.
func checkThings(t *testing.T, one impl.Train, long int) {
	t.Helper()
	moved := rightTrain(one, 0)
	num, den, ok := impl.PolePassing(one)
	wantPart(t, "PolePassing", num, den, ok, moved.passes(pointAt(40, 0), pointAt(40, 0)))
	num, den, ok = impl.BridgePassing(one, long)
	wantPart(t, "BridgePassing", num, den, ok, moved.passes(pointAt(40, 0), pointAt(40+long, 0)))
	inside := none
	if one.Length <= long {
		inside = partOfRat(minus(moved.front.meets(pointAt(40+long, 0)), moved.last.meets(pointAt(40, 0))))
	}
	num, den, ok = impl.InsideTunnel(one, long)
	wantPart(t, "InsideTunnel", num, den, ok, inside)
}

func checkPassing(t *testing.T, s impl.Train, u impl.Train) {
	t.Helper()
	moved, against, before := rightTrain(s, 0), leftTrain(u, 70), rightTrain(u, 70+u.Length)
	window := pointAt(-s.Length/2, s.Rate)
	num, den, ok := impl.PassEachOther(s, u)
	wantPart(t, "PassEachOther", num, den, ok, moved.passes(against.front, against.last))
	num, den, ok = impl.SeenFromTrain(s, u, true)
	wantPart(t, "SeenFromTrain, against", num, den, ok, against.passes(window, window))
	overtaking, seen := none, none
	if s.Rate > u.Rate {
		overtaking = moved.passes(before.last, before.front)
		// The last end is the first one that is seen of a train that is overtaken.
		seen = partOfRat(minus(window.meets(before.front), window.meets(before.last)))
	} else if s.Rate < u.Rate {
		seen = rightTrain(u, -s.Length-20).passes(window, window)
	}
	num, den, ok = impl.PassOvertaking(s, u)
	wantPart(t, "PassOvertaking", num, den, ok, overtaking)
	num, den, ok = impl.SeenFromTrain(s, u, false)
	wantPart(t, "SeenFromTrain, the same way", num, den, ok, seen)
}

func checkWalkers(t *testing.T, one impl.Train, rate int) {
	t.Helper()
	moved, against, before := rightTrain(one, 0), pointAt(30, -rate), pointAt(30, rate)
	num, den, ok := impl.PassWalker(one, rate, true)
	wantPart(t, "PassWalker, against", num, den, ok, moved.passes(against, against))
	passed := none
	if rate < one.Rate {
		passed = moved.passes(before, before)
	}
	num, den, ok = impl.PassWalker(one, rate, false)
	wantPart(t, "PassWalker, the same way", num, den, ok, passed)
}

func checkGaps(t *testing.T, s impl.Train, u impl.Train, gap int) {
	t.Helper()
	front := pointAt(0, s.Rate)
	time := front.meets(pointAt(gap, -u.Rate))
	num, den, wayNum, wayDen, ok := impl.MeetAfter(s, u, gap)
	wantPart(t, "MeetAfter, time", num, den, ok, partOfRat(time))
	wantPart(t, "MeetAfter, way", wayNum, wayDen, ok, partOfRat(front.placeAt(time)))
	after, way := none, none
	if s.Rate > u.Rate {
		time = front.meets(pointAt(gap, u.Rate))
		after, way = partOfRat(time), partOfRat(front.placeAt(time))
	}
	num, den, wayNum, wayDen, ok = impl.OvertakeAfter(s, u, gap)
	wantPart(t, "OvertakeAfter, time", num, den, ok, after)
	wantPart(t, "OvertakeAfter, way", wayNum, wayDen, ok, way)
}

// TestTimesTellTheTrain lets what is told pass the pole and the bridge again, and asks for trains whose times are known.
func TestTimesTellTheTrain(t *testing.T) {
	d := drawer{z: 14}
	for range 5000 {
		bridge, pole, whole := d.draw(1, 100000), d.draw(1, 10000), d.draw(1, 10000)
		num, den, rateNum, rateDen, ok := impl.TrainFromTimes(bridge, pole, whole)
		wantOk(t, "TrainFromTimes, length", whole > pole, num, den, ok)
		wantOk(t, "TrainFromTimes, rate", whole > pole, rateNum, rateDen, ok)
		if !ok {
			continue
		}
		length, rate := rat(num, den), rat(rateNum, rateDen)
		if divide(length, rate).Cmp(rat(pole, 1)) != 0 || divide(plus(length, rat(bridge, 1)), rate).Cmp(rat(whole, 1)) != 0 {
			t.Errorf("TrainFromTimes %d %d %d: got %v and %v", bridge, pole, whole, length, rate)
		}
	}
	for rate := 1; rate <= 100; rate++ {
		pole, over := d.draw(1, 1000/rate), d.draw(1, 100000/rate%9000+1)
		num, den, rateNum, rateDen, ok := impl.TrainFromTimes(over*rate, pole, pole+over)
		wantPart(t, "TrainFromTimes, length", num, den, ok, part{pole * rate, 1})
		wantPart(t, "TrainFromTimes, rate", rateNum, rateDen, ok, part{rate, 1})
	}
}

// meetings are all times at which one meets trains on a journey, which goes from 0 to as far as it takes times.
func meetings(journey int, every int) []*big.Rat {
	met := []*big.Rat{}
	one := pointAt(0, 1)
	// All others are met before the journey begins, or when it is over.
	for k := -journey/every - 2; k <= journey/every+2; k++ {
		// It is at the journey's end at the time k * every.
		other := pointAt(journey+k*every, -1)
		time := one.meets(other)
		if time.Sign() >= 0 && time.Cmp(rat(journey, 1)) <= 0 {
			met = append(met, time)
		}
	}
	return met
}

func checkJourney(t *testing.T, journey int, every int) {
	t.Helper()
	met := meetings(journey, every)
	between := 0
	for _, time := range met {
		if time.Sign() > 0 && time.Cmp(rat(journey, 1)) < 0 {
			between++
		}
	}
	n, ok := impl.CountTrainsMet(journey, every, true)
	wantInt(t, "CountTrainsMet", n, ok, len(met))
	n, ok = impl.CountTrainsMet(journey, every, false)
	wantInt(t, "CountTrainsMet between the ends", n, ok, between)
	// The one that leaves at the time 0 is in the middle.
	behind := met[len(met)/2:]
	for k, time := range behind {
		num, den, ok := impl.MetAt(journey, every, k)
		wantPart(t, "MetAt", num, den, ok, partOfRat(time))
	}
	num, den, ok := impl.MetAt(journey, every, len(behind))
	wantPart(t, "MetAt behind the end", num, den, ok, none)
}

func TestJourneysAgainstPoints(t *testing.T) {
	for journey := 1; journey <= 40; journey++ {
		for every := 1; every <= 45; every++ {
			checkJourney(t, journey, every)
		}
	}
	d := drawer{z: 15}
	for range 300 {
		checkJourney(t, d.draw(1, 10000), d.draw(100, 10000))
		every := d.draw(100, 2000)
		checkJourney(t, every*d.draw(1, 5), every)
	}
	checkJourney(t, 10000, 1)
	checkJourney(t, 9999, 2)
}

// takenInTurn takes the shortest train that is left, the first one of several, again and again.
func takenInTurn(list []impl.Train, siding int) []int {
	taken := []int{}
	for {
		shortest := -1
		for k := range list {
			if !slices.Contains(taken, k) && (shortest < 0 || list[k].Length < list[shortest].Length) {
				shortest = k
			}
		}
		if shortest < 0 || list[shortest].Length > siding {
			slices.Sort(taken)
			return taken
		}
		siding -= list[shortest].Length
		taken = append(taken, shortest)
	}
}

// mostOfAll looks at all choices of trains for the one of which the most fit.
func mostOfAll(list []impl.Train, siding int) int {
	most := 0
	for choice := range 1 << len(list) {
		long, count := 0, 0
		for k := range list {
			if choice>>k&1 == 1 {
				long += list[k].Length
				count++
			}
		}
		if long <= siding {
			most = max(most, count)
		}
	}
	return most
}

func TestSidingsAgainstAllChoices(t *testing.T) {
	d := drawer{z: 16}
	for range 400 {
		longest := []int{4, 30, 1000}[d.draw(0, 2)]
		list := make([]impl.Train, d.draw(1, 12))
		for k := range list {
			list[k] = train(d.draw(1, longest), d.draw(1, 100))
		}
		for range 4 {
			siding := d.draw(0, longest*(len(list)+1)/2)
			most, ok := impl.MostInSiding(list, siding)
			wantNumbers(t, "MostInSiding", most, ok, takenInTurn(list, siding))
			if len(most) != mostOfAll(list, siding) {
				t.Errorf("MostInSiding %v %d: got %v, and not the most", list, siding, most)
			}
			if fits, ok := impl.FitsSiding(list, siding); !ok || fits != (len(most) == len(list)) {
				t.Errorf("FitsSiding %v %d: got %v, %v", list, siding, fits, ok)
			}
		}
	}
}

// isFree reports whether a train that leaves so long behind s is never before the last end of that; it looks at several times.
func isFree(s impl.Train, u impl.Train, way int, headway *big.Rat) bool {
	const looks = 4
	end := rat(way, s.Rate)
	last := pointAt(-s.Length, s.Rate)
	front := pointAt(0, u.Rate)
	for look := range looks + 1 {
		time := plus(headway, times(minus(end, headway), rat(look, looks)))
		if front.placeAt(minus(time, headway)).Cmp(last.placeAt(time)) > 0 {
			return false
		}
	}
	return true
}

func TestHeadwaysAgainstPoints(t *testing.T) {
	bit := rat(1, 1000000000)
	eachRates(17, func(d *drawer, s impl.Train, u impl.Train) {
		if d.draw(0, 3) == 0 {
			s.Length = d.draw(1, 3)
		}
		for _, way := range []int{s.Length, s.Length + 1, d.draw(s.Length, 2000), d.draw(s.Length, 100000), 100000} {
			num, den, ok := impl.LeastHeadway(s, u, way)
			wantOk(t, "LeastHeadway", true, num, den, ok)
			headway, pole := rat(num, max(den, 1)), rat(s.Length, s.Rate)
			if headway.Cmp(pole) < 0 || !isFree(s, u, way, headway) {
				t.Errorf("LeastHeadway %v %v %d: got %v, which is too short", s, u, way, headway)
			}
			if headway.Cmp(pole) > 0 && isFree(s, u, way, minus(headway, bit)) {
				t.Errorf("LeastHeadway %v %v %d: got %v, which is too long", s, u, way, headway)
			}
		}
		num, den, ok := impl.LeastHeadway(s, u, s.Length-1)
		wantPart(t, "LeastHeadway on a short way", num, den, ok, none)
	})
}

func TestTrainTextsThereAndBack(t *testing.T) {
	for length := 1; length <= 1000; length++ {
		for rate := 1; rate <= 100; rate++ {
			one := train(length, rate)
			text, ok := impl.TrainText(one)
			if again, parsed := impl.ParseTrain(text); !ok || !parsed || again != one {
				t.Fatalf("ParseTrain %q: got %v, %v, not %v", text, again, parsed, one)
			}
		}
	}
}
