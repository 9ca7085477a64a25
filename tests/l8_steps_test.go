package tests

import (
	"slices"
	"testing"

	"loop.example/g01335/impl"
)

// lastWatched is the last time that is watched, and noTime is there if there is none.
const lastWatched, noTime = 1000, -1

// hall is visits that are watched time by time, as the document tells them, to hold the answers of chapter 8 against.
type hall struct {
	visits []impl.Visit
	// at tells for each time who is there.
	at [][]int
}

// watch lets each one come at a time, and leave when no time is left of the stay.
func watch(list []impl.Visit, until int) hall {
	h := hall{visits: list}
	left := make([]int, len(list))
	for k, v := range list {
		left[k] = v.Stay
	}
	for time := range until + 1 {
		at := []int{}
		for k, v := range list {
			if time >= v.From && left[k] >= 0 {
				at = append(at, k)
				left[k]--
			}
		}
		h.at = append(h.at, at)
	}
	return h
}

// doMeet reports whether two are there at one time.
func (h hall) doMeet(j int, k int) bool {
	return slices.ContainsFunc(h.at, func(at []int) bool { return slices.Contains(at, j) && slices.Contains(at, k) })
}

// allThere returns the first and the last time at which all are there.
func (h hall) allThere() pair {
	all := noPair
	for time, at := range h.at {
		if len(at) == len(h.visits) {
			if all == noPair {
				all.one = time
			}
			all.two = time
		}
	}
	return all
}

func (h hall) mostTogether() pair {
	most := pair{}
	for time, at := range h.at {
		if len(at) > most.one {
			most = pair{len(at), time}
		}
	}
	return most
}

// emptyTimes goes on from each time at which nobody is there, and at the one before somebody is, to the next one at which somebody is.
func (h hall) emptyTimes(until int) [][]int {
	rows := [][]int{}
	for time := 0; time <= until; time++ {
		if len(h.at[time]) > 0 {
			continue
		}
		first := time
		for time < until && len(h.at[time+1]) == 0 {
			time++
		}
		rows = append(rows, []int{first, time})
	}
	return rows
}

// areServed reports whether each visit has one of the times in it.
func (h hall) areServed(times []int) bool {
	served := make([]bool, len(h.visits))
	for _, time := range times {
		for _, k := range h.at[time] {
			served[k] = true
		}
	}
	return !slices.Contains(served, false)
}

// bestGuides looks at all lists of times up to a small one, and returns one of the shortest that serve all, in which each time is as late as it is in any of these.
func (h hall) bestGuides(t *testing.T, until int) []int {
	t.Helper()
	var shortest [][]int
	for code := range 1 << (until + 1) {
		times := []int{}
		for time := range until + 1 {
			if code>>time&1 == 1 {
				times = append(times, time)
			}
		}
		if len(shortest) > 0 && len(times) > len(shortest[0]) || !h.areServed(times) {
			continue
		}
		if len(shortest) > 0 && len(times) < len(shortest[0]) {
			shortest = nil
		}
		shortest = append(shortest, times)
	}
	best := slices.Clone(shortest[0])
	for _, times := range shortest {
		for k, time := range times {
			best[k] = max(best[k], time)
		}
	}
	if !h.areServed(best) {
		t.Errorf("%v: the latest guides %v do not serve all", h.visits, best)
	}
	return best
}

// mostApart returns how many of the visits can be taken of which no two meet: each one of these needs a guide of its own.
func (h hall) mostApart() int {
	most := 0
	for code := range 1 << len(h.visits) {
		var taken []int
		for k := range h.visits {
			if code>>k&1 == 1 {
				taken = append(taken, k)
			}
		}
		areApart := !slices.ContainsFunc(h.at, func(at []int) bool {
			there := 0
			for _, k := range at {
				there += code >> k & 1
			}
			return there > 1
		})
		if areApart {
			most = max(most, len(taken))
		}
	}
	return most
}

// visits draws visits that come by a time, and stay at most for so long.
func (d *drawer) visits(from int, stay int) []impl.Visit {
	list := make([]impl.Visit, d.draw(1, 6))
	for k := range list {
		list[k] = visit(d.draw(0, from), d.draw(0, stay))
	}
	return list
}

func TestVisitsAgainstHalls(t *testing.T) {
	d := drawer{z: 31}
	for _, list := range [][]impl.Visit{threeVisits, shortVisit, longVisit, lateVisit, sixVisits, inARow, apartVisits} {
		checkHall(t, &d, watch(list, lastWatched))
	}
	for range 150 {
		for _, list := range [][]impl.Visit{d.visits(200, 200), d.visits(200, 30), d.visits(200, 0), d.visits(12, 5), d.visits(5, 200), d.visits(3, 1), d.visits(40, 9)} {
			checkHall(t, &d, watch(list, lastWatched))
		}
	}
}

func checkHall(t *testing.T, d *drawer, h hall) {
	t.Helper()
	if !impl.AreVisits(h.visits) {
		t.Fatalf("%v are visits", h.visits)
	}
	for time, at := range h.at {
		there, ok := impl.WhoIsThere(h.visits, time)
		wantNumbers(t, "WhoIsThere", there, ok, at)
	}
	want := [][]int{}
	for j := range h.visits {
		for k := j + 1; k < len(h.visits); k++ {
			if h.doMeet(j, k) {
				want = append(want, []int{j, k})
			}
		}
	}
	pairs, ok := impl.PairsMeeting(h.visits)
	wantRows(t, "PairsMeeting", pairs, ok, want)
	one, two, ok := impl.AllThere(h.visits)
	wantPair(t, "AllThere", one, two, ok, h.allThere())
	one, two, ok = impl.MostTogether(h.visits)
	wantPair(t, "MostTogether", one, two, ok, h.mostTogether())
	for _, until := range []int{d.draw(0, 15), d.draw(0, 400), d.draw(0, lastWatched), lastWatched} {
		rows, ok := impl.EmptyTimes(h.visits, until)
		wantRows(t, "EmptyTimes", rows, ok, h.emptyTimes(until))
	}
	checkGuides(t, h)
	checkShift(t, h, d.draw(-200, 200))
	checkShift(t, h, d.draw(-3, 3))
	text, ok := impl.VisitsText(h.visits)
	again, parsed := impl.ParseVisits(text)
	if !ok || !parsed || !slices.Equal(again, h.visits) {
		t.Errorf("ParseVisits %q: got %v, %v, not %v", text, again, parsed, h.visits)
	}
}

// checkGuides takes the guides one by one, and tries each one at a later time too.
func checkGuides(t *testing.T, h hall) {
	t.Helper()
	guides, ok := impl.FewestGuides(h.visits)
	if !ok || !h.areServed(guides) || len(guides) != h.mostApart() {
		t.Errorf("FewestGuides %v: got %v, %v", h.visits, guides, ok)
		return
	}
	for k := range guides {
		if k > 0 && guides[k] <= guides[k-1] {
			t.Errorf("FewestGuides %v: got %v, which does not increase", h.visits, guides)
		}
		for later := guides[k] + 1; later <= 401; later++ {
			others := slices.Clone(guides)
			others[k] = later
			if h.areServed(others) {
				t.Errorf("FewestGuides %v: got %v, but %v serve all too", h.visits, guides, others)
			}
		}
	}
}

// checkShift watches visits that are shifted, unless one of them would come at no time there is.
func checkShift(t *testing.T, h hall, by int) {
	t.Helper()
	can := true
	for _, v := range h.visits {
		can = can && isIn(v.From+by, 0, 200)
	}
	shifted, ok := impl.ShiftVisits(h.visits, by)
	if !can {
		wantVisits(t, "ShiftVisits", shifted, ok, nil)
		return
	}
	if !ok || !impl.AreVisits(shifted) {
		t.Errorf("ShiftVisits %v %d: got %v, %v", h.visits, by, shifted, ok)
		return
	}
	moved := watch(shifted, lastWatched)
	for time := range 500 {
		if later := time + by; later >= 0 && !slices.Equal(moved.at[later], h.at[time]) {
			t.Errorf("ShiftVisits %v %d: got %v", h.visits, by, shifted)
			return
		}
	}
}

// TestGuidesAgainstAllLists looks at all lists of times that there are.
func TestGuidesAgainstAllLists(t *testing.T) {
	const last = 9
	d := drawer{z: 32}
	for range 400 {
		list := d.visits(7, 2)
		guides, ok := impl.FewestGuides(list)
		wantNumbers(t, "FewestGuides", guides, ok, watch(list, last).bestGuides(t, last))
	}
}

// TestPairsOfTimes lets two come at all whole times, and looks whether both are there at one.
func TestPairsOfTimes(t *testing.T) {
	for moments := 1; moments <= 9; moments++ {
		for a := range 11 {
			for b := range 11 {
				count := 0
				for come := range moments {
					for other := range moments {
						if watch(visits(come, a, other, b), 20).doMeet(0, 1) {
							count++
						}
					}
				}
				checkWholeTimes(t, moments, a, b, count, partOf(count, moments*moments))
			}
		}
	}
}

// areNear reports whether one who comes is met by another one: who comes first is there still.
func areNear(come int, a int, other int, b int) bool {
	if come <= other {
		return other-come <= a
	}
	return come-other <= b
}

func TestPairsOfManyTimes(t *testing.T) {
	d := drawer{z: 33}
	for range 200 {
		moments, a, b := d.draw(1, 200), d.draw(0, 200), d.draw(0, 200)
		count, far, sum := 0, make([]int, 201), 0
		for come := range moments {
			for other := range moments {
				if areNear(come, a, other, b) {
					count++
				}
				apart := max(come-other, other-come)
				far[apart]++
				sum += apart
			}
		}
		checkWholeTimes(t, moments, a, b, count, partOf(count, moments*moments))
		for apart, want := range far {
			n, ok := impl.CountApart(moments, apart)
			wantInt(t, "CountApart", n, ok, want)
		}
		num, den, ok := impl.MeanApart(moments)
		wantPart(t, "MeanApart", num, den, ok, partOf(sum, moments*moments))
	}
}

// chanceOf adds up, for all times at which the first one may come, how long the times are at which the second one may come to meet this one. How long they are changes steadily between whole times, so that the mean of both ends is enough there.
func chanceOf(long int, a int, b int) part {
	span := func(come int) int { return min(long, come+a) - max(0, come-b) }
	twice := 0
	for come := range long {
		twice += span(come) + span(come+1)
	}
	return partOf(twice, 2*long*long)
}

func TestChancesAgainstSums(t *testing.T) {
	d := drawer{z: 34}
	for long := 1; long <= 200; long++ {
		for range 20 {
			a, b := d.draw(0, long), d.draw(0, long)
			checkChance(t, long, a, b, chanceOf(long, a, b))
			checkChance(t, long, a, a, chanceOf(long, a, a))
		}
		checkChance(t, long, 0, long, chanceOf(long, 0, long))
	}
}

// TestLeastStaysAgainstChances tries one stay after another.
func TestLeastStaysAgainstChances(t *testing.T) {
	d := drawer{z: 35}
	for long := 1; long <= 200; long++ {
		chances := make([]part, long+1)
		for stay := range chances {
			chances[stay] = chanceOf(long, stay, stay)
		}
		asked := []part{{d.draw(0, 1000), 1000}, {d.draw(0, 1000), d.draw(1, 1000)}, {d.draw(900, 1000), d.draw(900, 1000)}, {d.draw(0, 9), d.draw(1, 9)}}
		for _, chance := range chances {
			// A chance that a stay has just so, and one a little greater and a little less.
			asked = append(asked, chance, part{chance.num + 1, chance.den}, part{chance.num, chance.den + 1})
		}
		for _, c := range asked {
			if !isIn(c.num, 0, 1000) || !isIn(c.den, 1, 1000) {
				continue
			}
			want := slices.IndexFunc(chances, func(chance part) bool { return chance.num*c.den >= c.num*chance.den })
			if want < 0 {
				want = fails
			}
			n, ok := impl.LeastStay(long, c.num, c.den)
			wantInt(t, "LeastStay", n, ok, want)
		}
	}
}

// TestListsOfTimes lets several come at all whole times, and looks whether all are there at one.
func TestListsOfTimes(t *testing.T) {
	for moments := 1; moments <= 5; moments++ {
		for people := 1; people <= 5; people++ {
			for stay := range 6 {
				count := 0
				for code := range power(moments, people) {
					list := make([]impl.Visit, people)
					for k := range list {
						list[k] = visit(code%moments, stay)
						code /= moments
					}
					if watch(list, 10).allThere() != noPair {
						count++
					}
				}
				n, ok := impl.CountAllWithin(moments, people, stay)
				wantInt(t, "CountAllWithin", n, ok, count)
			}
		}
	}
}

// TestManyListsOfTimes counts lists by the first and the last time of those who have come, one more after another.
func TestManyListsOfTimes(t *testing.T) {
	for moments := 1; moments <= 50; moments += 7 {
		lists := map[pair]int{}
		for time := range moments {
			lists[pair{time, time}] = 1
		}
		for people := 1; people <= 6; people++ {
			for stay := range 51 {
				count := 0
				for ends, many := range lists {
					if ends.two-ends.one <= stay {
						count += many
					}
				}
				n, ok := impl.CountAllWithin(moments, people, stay)
				wantInt(t, "CountAllWithin", n, ok, count)
			}
			lists = oneMore(lists, moments)
		}
	}
}

func oneMore(lists map[pair]int, moments int) map[pair]int {
	more := map[pair]int{}
	for ends, many := range lists {
		for time := range moments {
			more[pair{min(ends.one, time), max(ends.two, time)}] += many
		}
	}
	return more
}

// TestStaysNeededAgainstHalls lets all stay for longer and longer until they meet.
func TestStaysNeededAgainstHalls(t *testing.T) {
	d := drawer{z: 36}
	for range 300 {
		last := d.draw(0, 200)
		arrivals := make([]int, d.draw(1, 6))
		for k := range arrivals {
			arrivals[k] = d.draw(0, last)
		}
		n, ok := impl.StaysNeeded(arrivals)
		wantInt(t, "StaysNeeded", n, ok, stayOf(arrivals))
	}
}

func stayOf(arrivals []int) int {
	for stay := 0; ; stay++ {
		list := make([]impl.Visit, len(arrivals))
		for k, from := range arrivals {
			list[k] = visit(from, stay)
		}
		if watch(list, 200).allThere() != noPair {
			return stay
		}
	}
}
