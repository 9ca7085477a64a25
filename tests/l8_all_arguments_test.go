package tests

import (
	"math"
	"slices"
	"sync"
	"testing"

	"loop.example/g01335/impl"
)

// oddVisits are at, beside and far from the limits of chapter 8.
var oddVisits = []int{math.MinInt, math.MinInt + 1, -1001, -201, -200, -1, 0, 1, 2, 5, 6, 7, 49, 50, 51, 199, 200, 201, 400, 401, 999, 1000, 1001,
	1 << 32, math.MaxInt - 200, math.MaxInt - 1, math.MaxInt}

func isMoments(n int) bool { return isIn(n, 1, 200) }

func isStayed(n int) bool { return isIn(n, 0, 200) }

func areComing(list []impl.Visit) bool {
	for _, v := range list {
		if !isStayed(v.From) || !isStayed(v.Stay) {
			return false
		}
	}
	return isIn(len(list), 1, 6)
}

// oddGuests have one visit of each kind at each index, and all lengths.
func oddGuests() [][]impl.Visit {
	lists := [][]impl.Visit{nil, {}, make([]impl.Visit, 100000)}
	for count := 1; count <= 8; count++ {
		lists = append(lists, slices.Repeat(visits(200, 200), count))
	}
	for _, from := range oddVisits {
		for _, stay := range oddVisits {
			one := visit(from, stay)
			lists = append(lists, []impl.Visit{one}, []impl.Visit{one, visit(2, 4)}, []impl.Visit{visit(0, 3), one, visit(2, 4)},
				append(visits(1, 0, 3, 0, 5, 0, 7, 0, 9, 0), one), append(visits(1, 0, 3, 0, 5, 0, 7, 0, 9, 0, 11, 0), one))
		}
	}
	return lists
}

func TestVisitsTakeAllArguments(t *testing.T) {
	for _, list := range oddGuests() {
		valid := areComing(list)
		takeVisits(t, list, valid)
		for _, n := range oddVisits {
			there, ok := impl.WhoIsThere(list, n)
			wantList(t, "WhoIsThere", valid && isIn(n, 0, 1000), there, ok)
			rows, ok := impl.EmptyTimes(list, n)
			if ok != (valid && isIn(n, 0, 1000)) || !ok && rows != nil {
				t.Errorf("EmptyTimes %.7v %d: got %v, %v", list, n, rows, ok)
			}
			shifted, ok := impl.ShiftVisits(list, n)
			if ok && (!valid || !areComing(shifted) || len(shifted) != len(list)) || !ok && shifted != nil || n == 0 && ok != valid {
				t.Errorf("ShiftVisits %.7v %d: got %v, %v", list, n, shifted, ok)
			}
		}
	}
}

func takeVisits(t *testing.T, list []impl.Visit, valid bool) {
	t.Helper()
	if impl.AreVisits(list) != valid {
		t.Errorf("AreVisits %.7v: got %v", list, !valid)
	}
	pairs, ok := impl.PairsMeeting(list)
	if ok != valid || !valid && pairs != nil {
		t.Errorf("PairsMeeting %.7v: got %v, %v", list, pairs, ok)
	}
	first, last, ok := impl.AllThere(list)
	if ok && (!valid || first > last || !isStayed(first) || !isIn(last, 0, 400)) || !ok && (first != 0 || last != 0) {
		t.Errorf("AllThere %.7v: got %d, %d, %v", list, first, last, ok)
	}
	most, time, ok := impl.MostTogether(list)
	if ok != valid || ok && (!isIn(most, 1, len(list)) || !isStayed(time)) || !ok && (most != 0 || time != 0) {
		t.Errorf("MostTogether %.7v: got %d, %d, %v", list, most, time, ok)
	}
	guides, ok := impl.FewestGuides(list)
	wantList(t, "FewestGuides", valid, guides, ok)
	if ok && !isIn(len(guides), 1, len(list)) {
		t.Errorf("FewestGuides %.7v: got %v", list, guides)
	}
	if text, ok := impl.VisitsText(list); ok != valid || (text != "") != valid {
		t.Errorf("VisitsText %.7v: got %q, %v", list, text, ok)
	}
}

func TestWholeTimesTakeAllArguments(t *testing.T) {
	for _, moments := range oddVisits {
		num, den, ok := impl.MeanApart(moments)
		wantOk(t, "MeanApart", isMoments(moments), num, den, ok)
		for _, a := range oddVisits {
			n, ok := impl.CountApart(moments, a)
			wantSuccess(t, "CountApart", isMoments(moments) && isStayed(a), n, ok)
			for _, b := range oddVisits {
				must := isMoments(moments) && isStayed(a) && isStayed(b)
				n, ok := impl.CountTogether(moments, a, b)
				wantSuccess(t, "CountTogether", must, n, ok)
				num, den, ok := impl.ChanceTogether(moments, a, b)
				wantOk(t, "ChanceTogether", must, num, den, ok)
				if must && !isIn(n, moments, moments*moments) {
					t.Errorf("CountTogether %d %d %d: got %d", moments, a, b, n)
				}
				n, ok = impl.CountAllWithin(moments, a, b)
				wantSuccess(t, "CountAllWithin", isIn(moments, 1, 50) && isIn(a, 1, 6) && isIn(b, 0, 50), n, ok)
				if ok && n < moments {
					t.Errorf("CountAllWithin %d %d %d: got %d", moments, a, b, n)
				}
			}
		}
	}
}

func TestSpansTakeAllArguments(t *testing.T) {
	for _, long := range oddVisits {
		for _, a := range oddVisits {
			num, den, ok := impl.EvenChance(long, a)
			wantOk(t, "EvenChance", isMoments(long) && isIn(a, 0, long), num, den, ok)
			for _, b := range oddVisits {
				num, den, ok := impl.ChanceOfStays(long, a, b)
				wantOk(t, "ChanceOfStays", isMoments(long) && isIn(a, 0, long) && isIn(b, 0, long), num, den, ok)
				if ok && !isIn(num, 0, den) {
					t.Errorf("ChanceOfStays %d %d %d: got %d / %d", long, a, b, num, den)
				}
				n, ok := impl.LeastStay(long, a, b)
				wantSuccess(t, "LeastStay", isMoments(long) && isIn(a, 0, 1000) && isIn(b, 1, 1000) && a <= b, n, ok)
				if ok && !isIn(n, 0, long) {
					t.Errorf("LeastStay %d %d %d: got %d", long, a, b, n)
				}
			}
		}
	}
}

func TestArrivalsTakeAllArguments(t *testing.T) {
	for _, n := range oddVisits {
		for count := range 8 {
			arrivals := slices.Repeat([]int{30}, count)
			got, ok := impl.StaysNeeded(arrivals)
			wantSuccess(t, "StaysNeeded", isIn(count, 1, 6), got, ok)
			for k := range arrivals {
				one := slices.Clone(arrivals)
				one[k] = n
				got, ok := impl.StaysNeeded(one)
				wantSuccess(t, "StaysNeeded", isIn(count, 1, 6) && isStayed(n), got, ok)
			}
		}
	}
}

// askVisits asks all that is asked of lists of visits, and spoils what is returned.
func askVisits(t *testing.T, list []impl.Visit, arrivals []int) {
	t.Helper()
	there, ok := impl.WhoIsThere(list, 2)
	wantNumbers(t, "WhoIsThere", there, ok, []int{0, 1, 3})
	spoil(there)
	pairs, ok := impl.PairsMeeting(list)
	wantRows(t, "PairsMeeting", pairs, ok, [][]int{{0, 1}, {0, 3}, {1, 3}})
	spoilRows(t, pairs)
	rows, ok := impl.EmptyTimes(list, 10)
	wantRows(t, "EmptyTimes", rows, ok, [][]int{{7, 7}, {10, 10}})
	spoilRows(t, rows)
	guides, ok := impl.FewestGuides(list)
	wantNumbers(t, "FewestGuides", guides, ok, []int{3, 9})
	spoil(guides)
	first, last, ok := impl.AllThere(list)
	wantPair(t, "AllThere", first, last, ok, noPair)
	most, time, ok := impl.MostTogether(list)
	wantPair(t, "MostTogether", most, time, ok, pair{3, 2})
	n, ok := impl.StaysNeeded(arrivals)
	wantInt(t, "StaysNeeded", n, ok, 5)
	text, ok := impl.VisitsText(list)
	if !ok || text != "0+3,2+4,8+1,1+2" {
		t.Errorf("VisitsText: got %q, %v", text, ok)
	}
	for range 2 {
		shifted, ok := impl.ShiftVisits(list, 0)
		wantVisits(t, "ShiftVisits", shifted, ok, visits(0, 3, 2, 4, 8, 1, 1, 2))
		clear(shifted[:cap(shifted)])
		parsed, ok := impl.ParseVisits(text)
		wantVisits(t, "ParseVisits", parsed, ok, visits(0, 3, 2, 4, 8, 1, 1, 2))
		clear(parsed[:cap(parsed)])
	}
}

// TestVisitsAreNotModified looks at the spare capacity behind the lists too, which is neither read nor written.
func TestVisitsAreNotModified(t *testing.T) {
	whole := append(visits(0, 3, 2, 4, 8, 1, 1, 2), badVisits...)
	arrivals := []int{4, 9, 7, -7, 2000}
	kept, keptArrivals := slices.Clone(whole), slices.Clone(arrivals)
	for range 2 {
		askVisits(t, whole[:4], arrivals[:3])
	}
	if !slices.Equal(whole, kept) || !slices.Equal(arrivals, keptArrivals) {
		t.Errorf("the lists have become %v and %v", whole, arrivals)
	}
}

// TestVisitsAtOnce asks from several goroutines at once: no call knows of another one.
func TestVisitsAtOnce(t *testing.T) {
	list, arrivals := visits(0, 3, 2, 4, 8, 1, 1, 2), []int{4, 9, 7}
	var group sync.WaitGroup
	for range 8 {
		group.Go(func() {
			for range 100 {
				askVisits(t, list, arrivals)
			}
		})
	}
	group.Wait()
}
