package tests

import (
	"math"
	"slices"
	"testing"

	"loop.example/g01335/impl"
)

// oddWalks are at, beside and far from the limits of chapter 2.
var oddWalks = []int{math.MinInt, math.MinInt + 1, -1001, -1000, -101, -100, -1, 0, 1, 100, 101, 1000, 1001, 1000000, 1000001, math.MaxInt}

func oddWalkers() []impl.Walker {
	var list []impl.Walker
	for _, place := range oddWalks {
		for _, speed := range oddWalks {
			list = append(list, walker(place, speed))
		}
	}
	return list
}

func isWalking(w impl.Walker) bool { return isIn(w.Place, -1000, 1000) && isIn(w.Speed, -100, 100) }

func isMoment(num int, den int) bool { return isIn(num, 0, 1000000) && isIn(den, 1, 1000) }

// wantOk holds a call to failing just when it must, to returning zeros then, and else fractions in lowest terms.
func wantOk(t *testing.T, what string, must bool, num int, den int, ok bool) {
	t.Helper()
	if ok != must || !ok && (num != 0 || den != 0) || ok && (part{num, den} != partOf(num, max(den, 1))) {
		t.Errorf("%s: got %d / %d, %v, not %v", what, num, den, ok, must)
	}
}

func TestOneWalkerTakesAllArguments(t *testing.T) {
	for _, w := range oddWalkers() {
		if impl.IsWalker(w) != isWalking(w) {
			t.Errorf("IsWalker %v", w)
		}
		for _, num := range oddWalks {
			for _, den := range oddWalks {
				n, m, ok := impl.WalkerPlace(w, num, den)
				wantOk(t, "WalkerPlace", isWalking(w) && isMoment(num, den), n, m, ok)
				n, m, ok = impl.GapAt(w, walker(3, 1), num, den)
				wantOk(t, "GapAt", isWalking(w) && isMoment(num, den), n, m, ok)
				n, m, ok = impl.GapAt(walker(3, 1), w, num, den)
				wantOk(t, "GapAt", isWalking(w) && isMoment(num, den), n, m, ok)
			}
		}
	}
}

func TestTwoWalkersTakeAllArguments(t *testing.T) {
	for _, w := range oddWalkers() {
		for _, v := range oddWalkers() {
			valid := isWalking(w) && isWalking(v)
			meet := valid && (w.Place == v.Place || w.Place < v.Place && w.Speed > v.Speed || w.Place > v.Place && w.Speed < v.Speed)
			n, m, ok := impl.MeetingTime(w, v)
			wantOk(t, "MeetingTime", meet, n, m, ok)
			n, m, ok = impl.MeetingPlace(w, v)
			wantOk(t, "MeetingPlace", meet, n, m, ok)
		}
	}
}

func TestRingsTakeAllArguments(t *testing.T) {
	for _, around := range oddWalks {
		for _, w := range oddWalkers() {
			for _, v := range append(walkers(3, 1), badWalkers...) {
				takeRing(t, around, w, v)
				takeRing(t, around, v, w)
			}
		}
	}
}

func takeRing(t *testing.T, around int, w impl.Walker, v impl.Walker) {
	t.Helper()
	valid := isIn(around, 1, 1000) && isWalking(w) && isWalking(v)
	two := valid && w.Speed != v.Speed
	n, m, ok := impl.RingTime(around, w, v)
	wantOk(t, "RingTime", two || valid && (w.Place-v.Place)%around == 0, n, m, ok)
	n, m, ok = impl.RingGap(around, w, v)
	wantOk(t, "RingGap", two, n, m, ok)
	places, ok := impl.RingPlaces(around, w, v)
	if ok != two || (places != nil) != two {
		t.Errorf("RingPlaces %d %v %v: got %v, %v", around, w, v, places, ok)
	}
	for _, time := range oddWalks {
		n, ok := impl.CountRingMeetings(around, w, v, time)
		if must := two && isIn(time, 0, 1000); ok != must || !ok && n != 0 || n < 0 {
			t.Errorf("CountRingMeetings %d %v %v %d: got %d, %v", around, w, v, time, n, ok)
		}
	}
}

// oddLists have one walker of each kind at each index, and all lengths.
func oddLists() [][]impl.Walker {
	lists := [][]impl.Walker{nil, {}, make([]impl.Walker, 100000)}
	for count := 1; count <= 9; count++ {
		lists = append(lists, make([]impl.Walker, count))
	}
	for _, w := range oddWalkers() {
		lists = append(lists, []impl.Walker{w}, []impl.Walker{w, {}}, []impl.Walker{{}, w, walker(2, 1)},
			append(make([]impl.Walker, 7), w), append(make([]impl.Walker, 8), w))
	}
	return lists
}

func TestListsOfWalkersTakeAllArguments(t *testing.T) {
	for _, list := range oddLists() {
		valid, moves := isIn(len(list), 1, 8), false
		for _, w := range list {
			valid = valid && isWalking(w)
			moves = moves || w.Speed != 0
		}
		takeWalkers(t, list, valid)
		for _, num := range oddWalks {
			n, m, ok := impl.AllAtStart(num, list)
			wantOk(t, "AllAtStart", valid && moves && isIn(num, 1, 1000), n, m, ok)
			for _, den := range oddWalks {
				order, ok := impl.WalkersAt(list, num, den)
				wantIndices(t, "WalkersAt", list, valid && isMoment(num, den), order, ok)
			}
		}
	}
}

func takeWalkers(t *testing.T, list []impl.Walker, valid bool) {
	t.Helper()
	if impl.AreWalkers(list) != valid {
		t.Errorf("AreWalkers %v: got %v", list, !valid)
	}
	rows, ok := impl.AllMeetings(list)
	if ok != valid || !ok && rows != nil {
		t.Errorf("AllMeetings %v: got %v, %v", list, rows, ok)
	}
	n, ok := impl.CountMeetings(list)
	if ok != valid || n != len(rows) {
		t.Errorf("CountMeetings %v: got %d, %v", list, n, ok)
	}
	leaders, ok := impl.LeadersOf(list)
	if ok != valid || (len(leaders) > 0) != valid {
		t.Errorf("LeadersOf %v: got %v, %v", list, leaders, ok)
	}
	order, ok := impl.LastOrder(list)
	wantIndices(t, "LastOrder", list, valid, order, ok)
	if text, ok := impl.WalkersText(list); ok != valid || (text != "") != valid {
		t.Errorf("WalkersText %v: got %q, %v", list, text, ok)
	}
}

// wantIndices holds a list to all indices of another one, each once.
func wantIndices(t *testing.T, what string, list []impl.Walker, must bool, order []int, ok bool) {
	t.Helper()
	if ok != must || !ok && order != nil {
		t.Errorf("%s %v: got %v, %v", what, list, order, ok)
	}
	sorted := slices.Sorted(slices.Values(order))
	for k := range sorted {
		if sorted[k] != k || len(sorted) != len(list) {
			t.Errorf("%s %v: got %v", what, list, order)
			return
		}
	}
}

// askAll asks all that is asked of lists of walkers, and spoils what is returned.
func askAll(t *testing.T, list []impl.Walker) {
	t.Helper()
	rows, ok := impl.AllMeetings(list)
	wantRows(t, "AllMeetings", rows, ok, [][]int{{0, 2, 4, 3}, {0, 1, 2, 1}, {1, 2, 3, 1}})
	spoilRows(t, rows)
	order, ok := impl.WalkersAt(list, 2, 1)
	wantNumbers(t, "WalkersAt", order, ok, []int{2, 0, 1})
	spoil(order)
	leaders, ok := impl.LeadersOf(list)
	wantNumbers(t, "LeadersOf", leaders, ok, []int{1, 0})
	spoil(leaders)
	last, ok := impl.LastOrder(list)
	wantNumbers(t, "LastOrder", last, ok, []int{1, 2, 0})
	spoil(last)
	places, ok := impl.RingPlaces(10, list[0], list[1])
	wantRows(t, "RingPlaces", places, ok, [][]int{{0, 1}, {2, 1}, {4, 1}, {6, 1}, {8, 1}})
	spoilRows(t, places)
	n, ok := impl.CountMeetings(list)
	wantInt(t, "CountMeetings", n, ok, 3)
	num, den, ok := impl.AllAtStart(12, list)
	wantPart(t, "AllAtStart", num, den, ok, part{12, 1})
	text, ok := impl.WalkersText(list)
	again, parsed := impl.ParseWalkers(text)
	if !ok || !parsed || !slices.Equal(again, threeWalkers) {
		t.Errorf("WalkersText: got %q, %v", text, ok)
	}
	clear(again[:cap(again)])
}

func spoil(numbers []int) {
	numbers = numbers[:cap(numbers)]
	for k := range numbers {
		numbers[k] = -99
	}
}

// spoilRows writes over one row after another, with what is behind its length, and looks at those left.
func spoilRows(t *testing.T, rows [][]int) {
	t.Helper()
	for k := range rows {
		left := []int{}
		for _, row := range rows[k+1:] {
			left = append(left, row...)
		}
		spoil(rows[k])
		if !slices.Equal(left, slices.Concat(rows[k+1:]...)) {
			t.Errorf("the rows behind row %d share its memory", k)
		}
	}
}

// TestWalkersAreNotModified looks at the spare capacity behind the walkers too, which is neither read nor written.
func TestWalkersAreNotModified(t *testing.T) {
	whole := append(slices.Clone(threeWalkers), badWalkers...)
	kept := slices.Clone(whole)
	for range 2 {
		askAll(t, whole[:3])
	}
	if !slices.Equal(whole, kept) {
		t.Errorf("the walkers have become %v", whole)
	}
}
