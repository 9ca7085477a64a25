package tests

import (
	"math"
	"runtime"
	"slices"
	"sync"
	"testing"

	"loop.example/g01335/impl"
)

// oddMinutes are at, beside and far from the limits of chapter 7.
var oddMinutes = []int{math.MinInt, math.MinInt + 1, -2000, -1, 0, 1, 2, 3, 5, 11, 12, 13, 40, 59, 60, 61, 99, 100, 101, 499, 500, 501,
	1000, 1999, 2000, 2001, 2500, 1 << 32, 1 << 62, math.MaxInt - 1, math.MaxInt}

func isDayMinute(n int) bool { return isIn(n, 0, 2000) }

func isWalkOn(n int) bool { return isIn(n, 0, 100) }

// isDriven lets the buses leave one behind the other, so that no number grows too large.
func isDriven(l impl.Line) bool {
	if !isDayMinute(l.First) || !isIn(l.Every, 1, 2000) || !isIn(l.Count, 1, 60) || !isIn(len(l.Stops), 2, 12) || l.Stops[0] != 0 {
		return false
	}
	leaves := l.First
	for range l.Count - 1 {
		leaves += l.Every
	}
	for k, stop := range l.Stops[1:] {
		if stop <= l.Stops[k] || stop > 500 {
			return false
		}
	}
	return leaves <= 2000
}

func isStopOf(l impl.Line, stop int) bool { return isDriven(l) && isIn(stop, 0, len(l.Stops)-1) }

func isRideOf(l impl.Line, from int, to int) bool {
	return isStopOf(l, from) && isStopOf(l, to) && from < to
}

// lastAt is when the last bus is at a stop.
func lastAt(l impl.Line, stop int) int { return l.First + (l.Count-1)*l.Every + l.Stops[stop] }

// oddLines are lines of which two numbers are odd.
func oddLines() []impl.Line {
	lines := append(slices.Clone(badLines), goodLines...)
	for _, a := range oddMinutes {
		for _, b := range oddMinutes {
			lines = append(lines, line(a, b, 3, 0, 5, 12), line(a, 15, b, 0, 5, 12), line(10, a, b, 0, 5, 12), line(10, 15, 3, a, b),
				line(10, 15, 3, 0, a, b), line(a, 15, 3, 0, b), line(10, 15, a, 0, b, 500))
		}
	}
	for _, count := range oddMinutes {
		if isIn(count, 0, 2001) {
			stops := make([]int, count)
			for k := range stops {
				stops[k] = k
			}
			lines = append(lines, line(10, 15, 3, stops...))
		}
	}
	return lines
}

func TestLinesTakeAllArguments(t *testing.T) {
	for _, l := range oddLines() {
		valid := isDriven(l)
		if impl.IsLine(l) != valid {
			t.Errorf("IsLine %.20v: got %v", l, !valid)
		}
		if text, ok := impl.LineText(l); ok != valid || (text != "") != valid {
			t.Errorf("LineText %.20v: got %q, %v", l, text, ok)
		}
		buses, ok := impl.BusesOnWay(l, 16)
		wantList(t, "BusesOnWay", valid, buses, ok)
		takeAtStop(t, l, 1, 16)
		takeRide(t, l, 0, 1, 16)
		takeChange(t, l, 0, 1, tenLine, 0, 1, 5, 10)
		takeChange(t, tenLine, 0, 1, l, 0, 1, 5, 10)
		takeTwoLines(t, l, 1, tenLine, 0)
		takeTwoLines(t, tenLine, 0, l, 1)
		got, ok := impl.DropBus(l, 2)
		if ok != valid || ok && !isDriven(got) || !ok && !sameLine(got, impl.Line{}) {
			t.Errorf("DropBus %.20v: got %.20v, %v", l, got, ok)
		}
	}
}

func TestStopsTakeAllArguments(t *testing.T) {
	for _, l := range append(goodLines, impl.Line{}, line(10, 15, 0, 0, 5), line(10, 15, 3)) {
		for _, a := range oddMinutes {
			buses, ok := impl.BusesOnWay(l, a)
			wantList(t, "BusesOnWay", isDriven(l) && isDayMinute(a), buses, ok)
			got, ok := impl.DropBus(l, a)
			if ok != (isDriven(l) && isIn(a, 1, 60)) || ok && !isDriven(got) {
				t.Errorf("DropBus %v %d: got %v, %v", l, a, got, ok)
			}
			for _, b := range oddMinutes {
				takeAtStop(t, l, a, b)
				takeRide(t, l, a, b, 40)
				takeRide(t, l, a, 1, b)
				takeRide(t, l, 0, a, b)
				takeMean(t, l, 1, a, b)
				takeMean(t, l, a, 0, b)
				takeTwoLines(t, l, a, tenLine, b)
			}
		}
	}
}

// takeAtStop takes a for a stop and for a bus, and b for a minute and for a bus.
func takeAtStop(t *testing.T, l impl.Line, a int, b int) {
	t.Helper()
	n, ok := impl.TimeAtStop(l, b, a)
	wantSuccess(t, "TimeAtStop", isStopOf(l, a) && isIn(b, 0, l.Count-1), n, ok)
	must := isStopOf(l, a) && isDayMinute(b) && lastAt(l, a) >= b
	bus, at, ok := impl.NextBus(l, a, b)
	if ok != must || ok && (!isIn(bus, 0, l.Count-1) || at < b) || !ok && (bus != 0 || at != 0) {
		t.Errorf("NextBus %.20v %d %d: got %d, %d, %v", l, a, b, bus, at, ok)
	}
	n, ok = impl.WaitFor(l, a, b)
	wantSuccess(t, "WaitFor", must, n, ok)
	must = isDriven(l) && isIn(a, 0, l.Count-1) && isDayMinute(b) && isIn(b-l.First-a*l.Every, 0, l.Stops[len(l.Stops)-1])
	stop, isThere, ok := impl.WhereIsBus(l, a, b)
	wantSuccess(t, "WhereIsBus", must, stop, ok)
	if !ok && isThere {
		t.Errorf("WhereIsBus %.20v %d %d: fails, but is there", l, a, b)
	}
}

func takeRide(t *testing.T, l impl.Line, from int, to int, minute int) {
	t.Helper()
	isRide := isRideOf(l, from, to)
	n, ok := impl.RideFor(l, from, to)
	wantSuccess(t, "RideFor", isRide, n, ok)
	n, ok = impl.ArriveAt(l, from, to, minute)
	wantSuccess(t, "ArriveAt", isRide && isDayMinute(minute) && lastAt(l, from) >= minute, n, ok)
	must := isRide && isDayMinute(minute) && l.First+l.Stops[to] <= minute
	bus, at, ok := impl.LastBusBy(l, from, to, minute)
	if ok != must || ok && (!isIn(bus, 0, l.Count-1) || at >= minute) || !ok && (bus != 0 || at != 0) {
		t.Errorf("LastBusBy %.20v %d %d %d: got %d, %d, %v", l, from, to, minute, bus, at, ok)
	}
}

func takeMean(t *testing.T, l impl.Line, stop int, from int, to int) {
	t.Helper()
	must := isStopOf(l, stop) && isDayMinute(from) && isDayMinute(to) && from < to && lastAt(l, stop) >= to-1
	num, den, ok := impl.MeanWait(l, stop, from, to)
	wantOk(t, "MeanWait", must, num, den, ok)
}

func takeTwoLines(t *testing.T, l impl.Line, i int, m impl.Line, j int) {
	t.Helper()
	must := isStopOf(l, i) && isStopOf(m, j)
	minutes, ok := impl.TimesTogether(l, i, m, j)
	wantList(t, "TimesTogether", must, minutes, ok)
	lines, stops := []impl.Line{l, m}, []int{i, j}
	minutes, ok = impl.TimesOfLines(lines, stops)
	wantList(t, "TimesOfLines", must, minutes, ok)
	gap, begin, ok := impl.LongestGap(lines, stops)
	if ok != (must && len(minutes) > 1) || ok != (gap > 0) || !ok && begin != 0 {
		t.Errorf("LongestGap %.20v %v: got %d, %d, %v", lines, stops, gap, begin, ok)
	}
}

func takeChange(t *testing.T, l impl.Line, from int, off int, m impl.Line, on int, to int, walk int, minute int) {
	t.Helper()
	can := isRideOf(l, from, off) && isRideOf(m, on, to) && isWalkOn(walk) && isDayMinute(minute)
	there, arrival, ok := impl.ChangeAt(l, from, off, m, on, to, walk, minute)
	if ok && (!can || there < minute+walk || arrival <= there) || !ok && (there != 0 || arrival != 0) {
		t.Errorf("ChangeAt: got %d, %d, %v", there, arrival, ok)
	}
	w := []int{off, on, walk}
	best, end, isBest := impl.BestChange(l, from, m, to, [][]int{w}, minute)
	if isBest != ok || end != arrival || ok && !slices.Equal(best, w) || !ok && best != nil {
		t.Errorf("BestChange: got %v, %d, %v", best, end, isBest)
	}
}

func TestChangesTakeAllArguments(t *testing.T) {
	for _, a := range oddMinutes {
		for _, b := range oddMinutes {
			takeChange(t, fullLine, a, b, fullLine, 0, 1, 5, 100)
			takeChange(t, fullLine, 0, 1, fullLine, a, b, 5, 100)
			takeChange(t, fullLine, 0, 1, fullLine, 0, 1, a, b)
			takeChange(t, fullLine, a, 11, fullLine, b, 11, 5, 100)
			takeChange(t, fullLine, 0, a, fullLine, 0, b, 5, 100)
			takeChange(t, fullLine, 0, a, fullLine, 0, 1, b, 2000)
			takeChange(t, fullLine, 0, 1, fullLine, 0, a, 100, b)
		}
	}
}

func TestListsOfLinesTakeAllLengths(t *testing.T) {
	for count := range 8 {
		lines, walks := slices.Repeat([]impl.Line{tenLine}, count), slices.Repeat([][]int{{1, 0, 0}}, count*4)
		for more := range 8 {
			minutes, ok := impl.TimesOfLines(lines, make([]int, more))
			wantList(t, "TimesOfLines", isIn(count, 1, 5) && more == count, minutes, ok)
		}
		best, _, ok := impl.BestChange(tenLine, 0, lateBus, 1, walks, 10)
		wantList(t, "BestChange", isIn(count, 1, 5), best, ok)
		for k := range walks {
			odd := slices.Clone(walks)
			odd[k] = make([]int, count)
			best, arrival, ok := impl.BestChange(tenLine, 0, lateBus, 1, odd, 10)
			wantBest(t, best, arrival, ok, nil, fails)
		}
	}
}

// askLines asks all that is asked of lines, and spoils what is returned.
func askLines(t *testing.T, lines []impl.Line, stops []int, walks [][]int) {
	t.Helper()
	ten, twelve := lines[0], lines[1]
	checkTimesOfLines(t, lines, stops, []int{10, 12, 25, 27, 40}, pair{13, 12})
	minutes, _ := impl.TimesOfLines(lines, stops)
	spoil(minutes)
	checkNext(t, ten, 1, 16, pair{1, 30})
	checkRide(t, ten, 0, 2, 11, 12, 37)
	checkWhere(t, ten, 0, 16, 1, false)
	bus, at, ok := impl.LastBusBy(ten, 0, 2, 40)
	wantPair(t, "LastBusBy", bus, at, ok, pair{1, 25})
	num, den, ok := impl.MeanWait(ten, 0, 11, 26)
	wantPart(t, "MeanWait", num, den, ok, part{7, 1})
	buses, ok := impl.BusesOnWay(ten, 16)
	wantNumbers(t, "BusesOnWay", buses, ok, []int{0})
	spoil(buses)
	best, arrival, ok := impl.BestChange(ten, 0, twelve, 1, walks, 10)
	wantBest(t, best, arrival, ok, []int{1, 0, 5}, 35)
	spoil(best)
	minutes, ok = impl.TimesTogether(ten, 0, ten, 0)
	wantNumbers(t, "TimesTogether", minutes, ok, []int{10, 25, 40})
	spoil(minutes)
	for _, least := range []int{2, 3, 60} {
		l, ok := impl.DropBus(ten, least)
		wantLine(t, "DropBus", l, ok, true, line(10, 15, min(least, 3), 0, 5, 12))
		spoil(l.Stops)
	}
	text, ok := impl.LineText(ten)
	if !ok || text != "10+15x3:0,5,12" {
		t.Errorf("LineText: got %q, %v", text, ok)
	}
	l, ok := impl.ParseLine(text)
	wantLine(t, "ParseLine", l, ok, true, tenLine)
	spoil(l.Stops)
}

// TestLinesAreNotModified looks at the spare capacity behind the lists too, which is neither read nor written.
func TestLinesAreNotModified(t *testing.T) {
	tenStops, twelveStops := []int{0, 5, 12, -7, 13, 2000}, []int{0, 8, 8, 501}
	lines := append([]impl.Line{line(10, 15, 3, tenStops[:3]...), line(12, 15, 2, twelveStops[:2]...)}, badLines[:5]...)
	stops, walk, other := []int{0, 0, -7, 99}, []int{1, 0, 5, -7}, []int{2, 0, 5, -7}
	walks := [][]int{walk[:3], other[:3], {-7, -7, -7}, nil}
	for range 2 {
		askLines(t, lines[:2], stops[:2], walks[:2])
	}
	kept := [][]int{tenStops, {0, 5, 12, -7, 13, 2000}, twelveStops, {0, 8, 8, 501}, stops, {0, 0, -7, 99}, walk, {1, 0, 5, -7}, other, {2, 0, 5, -7},
		walks[0], {1, 0, 5}, walks[1], {2, 0, 5}, walks[2], {-7, -7, -7}, walks[3], {}}
	for k := 0; k < len(kept); k += 2 {
		if !slices.Equal(kept[k], kept[k+1]) {
			t.Errorf("%v has become %v", kept[k+1], kept[k])
		}
	}
	want := append([]impl.Line{tenLine, twelveLine}, badLines[:5]...)
	if !slices.EqualFunc(lines, want, sameLine) {
		t.Errorf("the lines have become %v", lines)
	}
}

// TestLinesAtOnce asks from several goroutines at once: no call knows of another one.
func TestLinesAtOnce(t *testing.T) {
	lines, stops, walks := []impl.Line{tenLine, twelveLine}, []int{0, 0}, [][]int{{1, 0, 5}, {2, 0, 5}}
	var group sync.WaitGroup
	for range 8 {
		group.Go(func() {
			for range 100 {
				askLines(t, lines, stops, walks)
			}
		})
	}
	group.Wait()
}

// TestBusesStop looks for buses that go on when their calls have returned.
func TestBusesStop(t *testing.T) {
	before := runtime.NumGoroutine()
	for range 200 {
		askLines(t, []impl.Line{tenLine, twelveLine}, []int{0, 0}, [][]int{{1, 0, 5}, {2, 0, 5}})
	}
	wantGone(t, before)
}
