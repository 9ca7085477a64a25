package tests

import (
	"math"
	"slices"
	"strings"
	"testing"

	"loop.example/g01335/impl"
)

func line(first int, every int, count int, stops ...int) impl.Line {
	return impl.Line{First: first, Every: every, Count: count, Stops: stops}
}

// tenLine and twelveLine are those of the document's example, the others are at the limits.
var (
	tenLine    = line(10, 15, 3, 0, 5, 12)
	twelveLine = line(12, 15, 2, 0, 8)
	oneBus     = line(7, 2000, 1, 0, 3)
	lateBus    = line(2000, 1, 1, 0, 500)
	allDay     = line(0, 2000, 2, 0, 1)
	thickLine  = line(0, 1, 60, 0, 500)
	fullLine   = line(53, 33, 60, 0, 1, 2, 3, 4, 5, 6, 7, 8, 9, 10, 500)
)

var goodLines = []impl.Line{tenLine, twelveLine, oneBus, lateBus, allDay, thickLine, fullLine, line(0, 1, 1, 0, 1), line(2000, 2000, 1, 0, 1), line(1999, 1, 2, 0, 1)}

// badLines are beside each limit, and far from it.
var badLines = []impl.Line{{}, line(-1, 15, 3, 0, 5), line(2001, 15, 1, 0, 5), line(math.MaxInt, 15, 3, 0, 5), line(math.MinInt, 15, 3, 0, 5),
	line(10, 0, 3, 0, 5), line(10, 0, 1, 0, 5), line(10, -1, 3, 0, 5), line(10, 2001, 1, 0, 5), line(0, 2001, 2, 0, 5),
	line(10, math.MaxInt, 3, 0, 5), line(10, math.MinInt, 3, 0, 5), line(10, math.MaxInt/2+1, 3, 0, 5), line(10, 1<<62, 5, 0, 5),
	line(10, 15, 0, 0, 5), line(10, 15, -1, 0, 5), line(10, 15, 61, 0, 5), line(10, 15, math.MaxInt, 0, 5), line(10, 15, math.MinInt, 0, 5),
	line(10, 16, 1<<60+1, 0, 5), line(math.MaxInt, math.MaxInt, math.MaxInt, 0, 5), line(math.MinInt, math.MinInt, math.MinInt, 0, 5),
	// The last bus leaves too late.
	line(1971, 15, 3, 0, 5), line(2000, 1, 2, 0, 5), line(1, 2000, 2, 0, 5), line(54, 33, 60, 0, 5), line(0, 34, 60, 0, 5), line(0, 1001, 3, 0, 5),
	line(10, 15, 3), line(10, 15, 3, []int{}...), line(10, 15, 3, 0), line(10, 15, 3, 5), line(10, 15, 3, 0, 1, 2, 3, 4, 5, 6, 7, 8, 9, 10, 11, 12),
	line(10, 15, 3, make([]int, 100000)...), line(10, 15, 3, 1, 5), line(10, 15, 3, 5, 0), line(10, 15, 3, -1, 5), line(10, 15, 3, -5, 0),
	line(10, 15, 3, 0, 0), line(10, 15, 3, 0, 5, 5), line(10, 15, 3, 0, 5, 4), line(10, 15, 3, 0, 12, 5, 13), line(10, 15, 3, 0, -1), line(10, 15, 3, 0, -1, 5),
	line(10, 15, 3, 0, 501), line(10, 15, 3, 0, 5, 501), line(10, 15, 3, 0, 501, 5), line(10, 15, 3, 0, math.MaxInt), line(10, 15, 3, math.MinInt, 0),
	line(10, 15, 3, 0, math.MinInt), line(10, 15, 3, math.MaxInt, 5)}

// badMinutes are no minutes.
var badMinutes = []int{math.MinInt, -2000, -1, 2001, 2500, math.MaxInt}

// badStops are no stops of a line with three.
var badStops = []int{math.MinInt, -1, 3, 12, math.MaxInt}

// pair is two numbers that are told together; noPair stands for a failure.
type pair struct {
	one, two int
}

var noPair = pair{-1, -1}

func wantPair(t *testing.T, what string, one int, two int, ok bool, want pair) {
	t.Helper()
	if want == noPair {
		if ok || one != 0 || two != 0 {
			t.Errorf("%s: got %d, %d, %v, and not a failure", what, one, two, ok)
		}
		return
	}
	if !ok || one != want.one || two != want.two {
		t.Errorf("%s: got %d, %d, %v, not %v", what, one, two, ok, want)
	}
}

func sameLine(l impl.Line, m impl.Line) bool {
	return l.First == m.First && l.Every == m.Every && l.Count == m.Count && slices.Equal(l.Stops, m.Stops)
}

func wantLine(t *testing.T, what string, got impl.Line, ok bool, must bool, want impl.Line) {
	t.Helper()
	if !must {
		want = impl.Line{}
	}
	if ok != must || !sameLine(got, want) {
		t.Errorf("%s: got %v, %v, not %v, %v", what, got, ok, want, must)
	}
}

func TestIsLine(t *testing.T) {
	for _, l := range goodLines {
		if !impl.IsLine(l) {
			t.Errorf("%v is a line", l)
		}
	}
	for _, l := range badLines {
		if impl.IsLine(l) {
			t.Errorf("%.20v is no line", l)
		}
	}
}

func TestTimeAtStop(t *testing.T) {
	cases := []struct {
		line            impl.Line
		bus, stop, want int
	}{
		{tenLine, 0, 0, 10},
		{tenLine, 1, 0, 25},
		{tenLine, 2, 0, 40},
		{tenLine, 0, 1, 15},
		{tenLine, 1, 1, 30},
		{tenLine, 2, 2, 52},
		{oneBus, 0, 0, 7},
		{oneBus, 0, 1, 10},
		{oneBus, 1, 0, fails},
		{allDay, 0, 0, 0},
		{allDay, 1, 0, 2000},
		// A bus may be at a stop beyond MaxMinute.
		{allDay, 1, 1, 2001},
		{lateBus, 0, 1, 2500},
		{fullLine, 59, 0, 2000},
		{fullLine, 59, 11, 2500},
		{fullLine, 60, 0, fails},
		{fullLine, 0, 12, fails},
		{tenLine, 3, 0, fails},
		{tenLine, -1, 0, fails},
		{tenLine, math.MaxInt, 0, fails},
		{tenLine, math.MinInt, 0, fails},
	}
	for _, c := range cases {
		n, ok := impl.TimeAtStop(c.line, c.bus, c.stop)
		wantInt(t, "TimeAtStop", n, ok, c.want)
	}
	for _, stop := range badStops {
		n, ok := impl.TimeAtStop(tenLine, 0, stop)
		wantInt(t, "TimeAtStop", n, ok, fails)
	}
	for _, l := range badLines {
		n, ok := impl.TimeAtStop(l, 0, 0)
		wantInt(t, "TimeAtStop", n, ok, fails)
	}
}

func TestNextBus(t *testing.T) {
	cases := []struct {
		line         impl.Line
		stop, minute int
		want         pair
	}{
		{tenLine, 1, 16, pair{1, 30}},
		// A bus that is at the stop just at the minute is the next one.
		{tenLine, 1, 15, pair{0, 15}},
		{tenLine, 1, 30, pair{1, 30}},
		{tenLine, 1, 31, pair{2, 45}},
		{tenLine, 1, 45, pair{2, 45}},
		{tenLine, 1, 46, noPair},
		{tenLine, 0, 0, pair{0, 10}},
		{tenLine, 0, 40, pair{2, 40}},
		{tenLine, 0, 41, noPair},
		{tenLine, 2, 0, pair{0, 22}},
		{tenLine, 2, 52, pair{2, 52}},
		{tenLine, 2, 53, noPair},
		{tenLine, 2, 2000, noPair},
		{oneBus, 0, 0, pair{0, 7}},
		{oneBus, 0, 7, pair{0, 7}},
		{oneBus, 0, 8, noPair},
		{oneBus, 1, 8, pair{0, 10}},
		{allDay, 0, 0, pair{0, 0}},
		{allDay, 0, 1, pair{1, 2000}},
		{allDay, 0, 2000, pair{1, 2000}},
		// The next bus may come beyond MaxMinute.
		{allDay, 1, 2000, pair{1, 2001}},
		{lateBus, 1, 0, pair{0, 2500}},
		{lateBus, 1, 2000, pair{0, 2500}},
		{thickLine, 0, 59, pair{59, 59}},
		{thickLine, 0, 60, noPair},
		{thickLine, 1, 0, pair{0, 500}},
		{fullLine, 11, 2000, pair{44, 2005}},
		{fullLine, 10, 2000, pair{59, 2010}},
		{fullLine, 0, 2000, pair{59, 2000}},
		{fullLine, 12, 0, noPair},
	}
	for _, c := range cases {
		checkNext(t, c.line, c.stop, c.minute, c.want)
	}
	for _, minute := range badMinutes {
		checkNext(t, tenLine, 0, minute, noPair)
	}
	for _, stop := range badStops {
		checkNext(t, tenLine, stop, 0, noPair)
	}
	for _, l := range badLines {
		checkNext(t, l, 0, 0, noPair)
	}
}

func checkNext(t *testing.T, l impl.Line, stop int, minute int, want pair) {
	t.Helper()
	bus, at, ok := impl.NextBus(l, stop, minute)
	wantPair(t, "NextBus", bus, at, ok, want)
	wait := fails
	if want != noPair {
		wait = want.two - minute
	}
	n, ok := impl.WaitFor(l, stop, minute)
	wantInt(t, "WaitFor", n, ok, wait)
}

func TestLastBusBy(t *testing.T) {
	cases := []struct {
		line             impl.Line
		from, to, minute int
		want             pair
	}{
		{tenLine, 0, 2, 40, pair{1, 25}},
		{tenLine, 0, 2, 37, pair{1, 25}},
		{tenLine, 0, 2, 36, pair{0, 10}},
		{tenLine, 0, 2, 22, pair{0, 10}},
		// No bus is there as early.
		{tenLine, 0, 2, 21, noPair},
		{tenLine, 0, 2, 0, noPair},
		{tenLine, 0, 2, 51, pair{1, 25}},
		{tenLine, 0, 2, 52, pair{2, 40}},
		{tenLine, 0, 2, 2000, pair{2, 40}},
		{tenLine, 1, 2, 40, pair{1, 30}},
		{tenLine, 0, 1, 44, pair{1, 25}},
		{tenLine, 0, 1, 45, pair{2, 40}},
		{oneBus, 0, 1, 9, noPair},
		{oneBus, 0, 1, 10, pair{0, 7}},
		{oneBus, 0, 1, 2000, pair{0, 7}},
		{allDay, 0, 1, 0, noPair},
		{allDay, 0, 1, 1, pair{0, 0}},
		{allDay, 0, 1, 2000, pair{0, 0}},
		{lateBus, 0, 1, 2000, noPair},
		{fullLine, 0, 11, 2000, pair{43, 1472}},
		{fullLine, 10, 11, 553, pair{0, 63}},
		{fullLine, 0, 1, 2000, pair{58, 1967}},
		// One rides to a later stop alone.
		{tenLine, 0, 0, 40, noPair},
		{tenLine, 2, 2, 2000, noPair},
		{tenLine, 1, 0, 40, noPair},
		{tenLine, 2, 0, 2000, noPair},
	}
	for _, c := range cases {
		bus, at, ok := impl.LastBusBy(c.line, c.from, c.to, c.minute)
		wantPair(t, "LastBusBy", bus, at, ok, c.want)
	}
	for _, minute := range badMinutes {
		bus, at, ok := impl.LastBusBy(tenLine, 0, 2, minute)
		wantPair(t, "LastBusBy", bus, at, ok, noPair)
	}
	for _, stop := range badStops {
		bus, at, ok := impl.LastBusBy(tenLine, 0, stop, 40)
		wantPair(t, "LastBusBy", bus, at, ok, noPair)
		bus, at, ok = impl.LastBusBy(tenLine, stop, 2, 40)
		wantPair(t, "LastBusBy", bus, at, ok, noPair)
	}
	for _, l := range badLines {
		bus, at, ok := impl.LastBusBy(l, 0, 1, 2000)
		wantPair(t, "LastBusBy", bus, at, ok, noPair)
	}
}

func TestRides(t *testing.T) {
	cases := []struct {
		line             impl.Line
		from, to, minute int
		ride, arrive     int
	}{
		{tenLine, 0, 2, 10, 12, 22},
		{tenLine, 0, 2, 11, 12, 37},
		{tenLine, 0, 1, 0, 5, 15},
		{tenLine, 1, 2, 15, 7, 22},
		{tenLine, 1, 2, 16, 7, 37},
		{tenLine, 0, 2, 40, 12, 52},
		{tenLine, 0, 2, 41, 12, fails},
		{tenLine, 1, 2, 41, 7, 52},
		{oneBus, 0, 1, 7, 3, 10},
		{oneBus, 0, 1, 8, 3, fails},
		{allDay, 0, 1, 0, 1, 1},
		{allDay, 0, 1, 1, 1, 2001},
		{lateBus, 0, 1, 2000, 500, 2500},
		{lateBus, 0, 1, 0, 500, 2500},
		{fullLine, 0, 11, 2000, 500, 2500},
		{fullLine, 10, 11, 2000, 490, 2500},
		{fullLine, 3, 5, 60, 2, 91},
		{tenLine, 0, 0, 10, fails, fails},
		{tenLine, 2, 2, 10, fails, fails},
		{tenLine, 1, 0, 10, fails, fails},
		{tenLine, 2, 1, 10, fails, fails},
	}
	for _, c := range cases {
		checkRide(t, c.line, c.from, c.to, c.minute, c.ride, c.arrive)
	}
	for _, minute := range badMinutes {
		checkRide(t, tenLine, 0, 2, minute, 12, fails)
	}
	for _, stop := range badStops {
		checkRide(t, tenLine, 0, stop, 10, fails, fails)
		checkRide(t, tenLine, stop, 2, 10, fails, fails)
		checkRide(t, tenLine, stop, stop, 10, fails, fails)
	}
	for _, l := range badLines {
		checkRide(t, l, 0, 1, 0, fails, fails)
	}
}

func checkRide(t *testing.T, l impl.Line, from int, to int, minute int, ride int, arrive int) {
	t.Helper()
	n, ok := impl.RideFor(l, from, to)
	wantInt(t, "RideFor", n, ok, ride)
	n, ok = impl.ArriveAt(l, from, to, minute)
	wantInt(t, "ArriveAt", n, ok, arrive)
}

func TestMeanWait(t *testing.T) {
	cases := []struct {
		line           impl.Line
		stop, from, to int
		want           part
	}{
		{tenLine, 0, 11, 26, part{7, 1}},
		{tenLine, 0, 10, 11, part{0, 1}},
		{tenLine, 0, 10, 12, part{7, 1}},
		{tenLine, 0, 9, 11, part{1, 2}},
		{tenLine, 0, 0, 11, part{5, 1}},
		{tenLine, 0, 0, 41, part{265, 41}},
		{tenLine, 0, 40, 41, part{0, 1}},
		{tenLine, 0, 39, 41, part{1, 2}},
		// For one of the minutes there is no bus.
		{tenLine, 0, 40, 42, none},
		{tenLine, 0, 0, 42, none},
		{tenLine, 0, 41, 42, none},
		{tenLine, 0, 0, 2000, none},
		{tenLine, 1, 40, 46, part{5, 2}},
		{tenLine, 2, 52, 53, part{0, 1}},
		{tenLine, 2, 52, 54, none},
		{oneBus, 0, 0, 8, part{7, 2}},
		{oneBus, 0, 7, 8, part{0, 1}},
		{oneBus, 0, 7, 9, none},
		{allDay, 0, 1, 2000, part{1000, 1}},
		{allDay, 0, 0, 2000, part{1999, 2}},
		{allDay, 1, 1999, 2000, part{2, 1}},
		{lateBus, 1, 0, 2000, part{3001, 2}},
		{fullLine, 11, 0, 2000, part{88199, 1000}},
		{thickLine, 0, 0, 60, part{0, 1}},
		{thickLine, 0, 0, 61, none},
		// There is a minute at least.
		{tenLine, 0, 11, 11, none},
		{tenLine, 0, 0, 0, none},
		{tenLine, 0, 26, 11, none},
		{lateBus, 1, 2000, 2000, none},
		{lateBus, 1, 1999, 2001, none},
		{lateBus, 1, 2000, 2001, none},
	}
	for _, c := range cases {
		num, den, ok := impl.MeanWait(c.line, c.stop, c.from, c.to)
		wantPart(t, "MeanWait", num, den, ok, c.want)
	}
	for _, minute := range badMinutes {
		num, den, ok := impl.MeanWait(lateBus, 0, 0, minute)
		wantPart(t, "MeanWait", num, den, ok, none)
		num, den, ok = impl.MeanWait(lateBus, 0, minute, 2000)
		wantPart(t, "MeanWait", num, den, ok, none)
	}
	for _, stop := range badStops {
		num, den, ok := impl.MeanWait(tenLine, stop, 10, 11)
		wantPart(t, "MeanWait", num, den, ok, none)
	}
	for _, l := range badLines {
		num, den, ok := impl.MeanWait(l, 0, 0, 1)
		wantPart(t, "MeanWait", num, den, ok, none)
	}
}

func checkWhere(t *testing.T, l impl.Line, bus int, minute int, want int, wantThere bool) {
	t.Helper()
	stop, isThere, ok := impl.WhereIsBus(l, bus, minute)
	wantInt(t, "WhereIsBus", stop, ok, want)
	if isThere != wantThere {
		t.Errorf("WhereIsBus %v %d %d: got %v", l, bus, minute, isThere)
	}
}

func TestWhereIsBus(t *testing.T) {
	cases := []struct {
		line        impl.Line
		bus, minute int
		stop        int
		isThere     bool
	}{
		{tenLine, 0, 16, 1, false},
		{tenLine, 0, 0, fails, false},
		{tenLine, 0, 9, fails, false},
		{tenLine, 0, 10, 0, true},
		{tenLine, 0, 11, 0, false},
		{tenLine, 0, 14, 0, false},
		{tenLine, 0, 15, 1, true},
		{tenLine, 0, 21, 1, false},
		{tenLine, 0, 22, 2, true},
		{tenLine, 0, 23, fails, false},
		{tenLine, 0, 2000, fails, false},
		{tenLine, 1, 24, fails, false},
		{tenLine, 1, 25, 0, true},
		{tenLine, 2, 52, 2, true},
		{tenLine, 2, 53, fails, false},
		{oneBus, 0, 6, fails, false},
		{oneBus, 0, 7, 0, true},
		{oneBus, 0, 9, 0, false},
		{oneBus, 0, 10, 1, true},
		{oneBus, 0, 11, fails, false},
		{oneBus, 1, 7, fails, false},
		{allDay, 0, 0, 0, true},
		{allDay, 0, 1, 1, true},
		{allDay, 0, 2, fails, false},
		{allDay, 1, 1999, fails, false},
		{allDay, 1, 2000, 0, true},
		{lateBus, 0, 2000, 0, true},
		{lateBus, 0, 1999, fails, false},
		{fullLine, 59, 1999, fails, false},
		{fullLine, 59, 2000, 0, true},
		{fullLine, 58, 2000, 10, false},
		{fullLine, 0, 552, 10, false},
		{fullLine, 0, 553, 11, true},
		{fullLine, 0, 554, fails, false},
		{tenLine, -1, 16, fails, false},
		{tenLine, 3, 60, fails, false},
		{tenLine, math.MaxInt, 16, fails, false},
		{tenLine, math.MinInt, 16, fails, false},
	}
	for _, c := range cases {
		checkWhere(t, c.line, c.bus, c.minute, c.stop, c.isThere)
	}
	for _, minute := range badMinutes {
		checkWhere(t, tenLine, 0, minute, fails, false)
		checkWhere(t, lateBus, 0, minute, fails, false)
	}
	for _, l := range badLines {
		checkWhere(t, l, 0, 10, fails, false)
	}
}

func TestBusesOnWay(t *testing.T) {
	cases := []struct {
		line   impl.Line
		minute int
		want   []int
	}{
		{tenLine, 9, []int{}},
		{tenLine, 10, []int{0}},
		{tenLine, 16, []int{0}},
		{tenLine, 22, []int{0}},
		{tenLine, 23, []int{}},
		{tenLine, 24, []int{}},
		{tenLine, 25, []int{1}},
		{tenLine, 52, []int{2}},
		{tenLine, 53, []int{}},
		{tenLine, 2000, []int{}},
		{oneBus, 6, []int{}},
		{oneBus, 7, []int{0}},
		{oneBus, 10, []int{0}},
		{oneBus, 11, []int{}},
		{allDay, 0, []int{0}},
		{allDay, 2000, []int{1}},
		{lateBus, 2000, []int{0}},
		{thickLine, 3, []int{0, 1, 2, 3}},
		{thickLine, 556, []int{56, 57, 58, 59}},
		{thickLine, 559, []int{59}},
		{thickLine, 560, []int{}},
		{line(0, 5, 4, 0, 10), 10, []int{0, 1, 2}},
		{line(0, 5, 4, 0, 10), 11, []int{1, 2}},
		{fullLine, 2000, []int{44, 45, 46, 47, 48, 49, 50, 51, 52, 53, 54, 55, 56, 57, 58, 59}},
	}
	for _, c := range cases {
		buses, ok := impl.BusesOnWay(c.line, c.minute)
		wantNumbers(t, "BusesOnWay", buses, ok, c.want)
	}
	for _, minute := range badMinutes {
		buses, ok := impl.BusesOnWay(tenLine, minute)
		wantNumbers(t, "BusesOnWay", buses, ok, nil)
	}
	for _, l := range badLines {
		buses, ok := impl.BusesOnWay(l, 10)
		wantNumbers(t, "BusesOnWay", buses, ok, nil)
	}
}

// eveningLine and nightLine have stops that are reached beyond MaxMinute.
var eveningLine, nightLine = line(1950, 50, 2, 0, 100), line(1900, 100, 2, 0, 200, 300)

func TestChangeAt(t *testing.T) {
	cases := []struct {
		l                      impl.Line
		from, off              int
		m                      impl.Line
		on, to, walk, minute   int
		wantThere, wantArrival int
	}{
		{tenLine, 0, 1, twelveLine, 0, 1, 5, 10, 20, 35},
		{tenLine, 0, 1, twelveLine, 0, 1, 5, 0, 20, 35},
		// One may come just when a bus is there.
		{tenLine, 0, 1, twelveLine, 0, 1, 12, 10, 27, 35},
		{tenLine, 0, 2, twelveLine, 0, 1, 5, 10, 27, 35},
		{tenLine, 0, 2, twelveLine, 0, 1, 0, 10, 22, 35},
		// The first bus is one, and the second one is none, or the first one is none.
		{tenLine, 0, 1, twelveLine, 0, 1, 13, 10, fails, fails},
		{tenLine, 0, 1, twelveLine, 0, 1, 5, 11, fails, fails},
		{tenLine, 0, 1, twelveLine, 0, 1, 0, 41, fails, fails},
		{tenLine, 0, 1, lateBus, 0, 1, 0, 41, fails, fails},
		{tenLine, 0, 1, lateBus, 0, 1, 100, 40, 145, 2500},
		{tenLine, 1, 2, lateBus, 0, 1, 0, 45, 52, 2500},
		{oneBus, 0, 1, twelveLine, 0, 1, 2, 7, 12, 20},
		{oneBus, 0, 1, twelveLine, 0, 1, 3, 7, 13, 35},
		{oneBus, 0, 1, oneBus, 0, 1, 0, 0, fails, fails},
		{oneBus, 0, 1, twelveLine, 0, 1, 2, 8, fails, fails},
		// The same line may be taken again.
		{tenLine, 0, 1, tenLine, 0, 2, 10, 10, 25, 37},
		{tenLine, 0, 1, tenLine, 1, 2, 0, 10, 15, 22},
		{tenLine, 0, 1, tenLine, 1, 2, 1, 10, 16, 37},
		// Walks may go on beyond MaxMinute, and buses too.
		{eveningLine, 0, 1, nightLine, 1, 2, 0, 1950, 2050, 2200},
		{eveningLine, 0, 1, nightLine, 1, 2, 50, 1950, 2100, 2200},
		{eveningLine, 0, 1, nightLine, 1, 2, 51, 1950, 2101, 2300},
		{eveningLine, 0, 1, nightLine, 1, 2, 100, 1951, 2200, 2300},
		{eveningLine, 0, 1, nightLine, 0, 2, 0, 1950, fails, fails},
		{lateBus, 0, 1, lateBus, 0, 1, 0, 2000, fails, fails},
		{allDay, 0, 1, allDay, 0, 1, 100, 0, 101, 2001},
		{allDay, 0, 1, lateBus, 0, 1, 0, 1, fails, fails},
		{fullLine, 0, 11, fullLine, 0, 11, 100, 53, 653, 1180},
		// No rides, and no walks.
		{tenLine, 1, 1, twelveLine, 0, 1, 5, 10, fails, fails},
		{tenLine, 1, 0, twelveLine, 0, 1, 5, 10, fails, fails},
		{tenLine, 0, 1, twelveLine, 0, 0, 5, 10, fails, fails},
		{tenLine, 0, 1, twelveLine, 1, 1, 5, 10, fails, fails},
		{tenLine, 0, 1, twelveLine, 1, 0, 5, 10, fails, fails},
		{tenLine, 0, 1, lateBus, 0, 1, 101, 10, fails, fails},
		{tenLine, 0, 1, lateBus, 0, 1, -1, 10, fails, fails},
		{tenLine, 0, 1, lateBus, 0, 1, math.MaxInt, 10, fails, fails},
		{tenLine, 0, 1, lateBus, 0, 1, math.MinInt, 10, fails, fails},
	}
	for _, c := range cases {
		checkChange(t, c.l, c.from, c.off, c.m, c.on, c.to, c.walk, c.minute, c.wantThere, c.wantArrival)
	}
}

func checkChange(t *testing.T, l impl.Line, from int, off int, m impl.Line, on int, to int, walk int, minute int, wantThere int, wantArrival int) {
	t.Helper()
	want := pair{wantThere, wantArrival}
	if wantThere == fails {
		want = noPair
	}
	there, arrival, ok := impl.ChangeAt(l, from, off, m, on, to, walk, minute)
	wantPair(t, "ChangeAt", there, arrival, ok, want)
	w := []int{off, on, walk}
	best, arrival, ok := impl.BestChange(l, from, m, to, [][]int{w}, minute)
	if want == noPair {
		w = nil
	}
	wantBest(t, best, arrival, ok, w, wantArrival)
}

func wantBest(t *testing.T, best []int, arrival int, ok bool, want []int, wantArrival int) {
	t.Helper()
	wantNumbers(t, "BestChange", best, ok, want)
	wantInt(t, "BestChange", arrival, ok, wantArrival)
}

func TestNoChange(t *testing.T) {
	for _, minute := range badMinutes {
		checkChange(t, tenLine, 0, 1, lateBus, 0, 1, 5, minute, fails, fails)
	}
	for _, stop := range badStops {
		checkChange(t, tenLine, stop, 2, tenLine, 1, 2, 5, 10, fails, fails)
		checkChange(t, tenLine, 0, stop, tenLine, 1, 2, 5, 10, fails, fails)
		checkChange(t, tenLine, 0, 1, tenLine, stop, 2, 5, 10, fails, fails)
		checkChange(t, tenLine, 0, 1, tenLine, 1, stop, 5, 10, fails, fails)
	}
	for _, l := range badLines {
		checkChange(t, l, 0, 1, lateBus, 0, 1, 5, 10, fails, fails)
		checkChange(t, tenLine, 0, 1, l, 0, 1, 5, 10, fails, fails)
	}
}

func TestBestChange(t *testing.T) {
	thick := line(12, 5, 5, 0, 8)
	twenty := slices.Repeat([][]int{{2, 0, 0}}, 20)
	twenty[19] = []int{1, 0, 0}
	cases := []struct {
		m           impl.Line
		to          int
		walks       [][]int
		minute      int
		want        []int
		wantArrival int
	}{
		{twelveLine, 1, [][]int{{1, 0, 5}}, 10, []int{1, 0, 5}, 35},
		// The first one of several with which one is there first.
		{twelveLine, 1, [][]int{{1, 0, 5}, {2, 0, 5}, {1, 0, 0}}, 10, []int{1, 0, 5}, 35},
		{twelveLine, 1, [][]int{{2, 0, 5}, {1, 0, 5}}, 10, []int{2, 0, 5}, 35},
		{thick, 1, [][]int{{2, 0, 0}, {1, 0, 3}, {1, 0, 2}, {1, 0, 0}}, 10, []int{1, 0, 2}, 25},
		{thick, 1, [][]int{{1, 0, 0}, {2, 0, 0}}, 10, []int{1, 0, 0}, 25},
		{thick, 1, [][]int{{2, 0, 0}, {1, 0, 0}}, 10, []int{1, 0, 0}, 25},
		{thick, 1, [][]int{{1, 0, 8}, {2, 0, 1}}, 10, []int{1, 0, 8}, 35},
		{thick, 1, [][]int{{2, 0, 1}, {1, 0, 8}}, 10, []int{2, 0, 1}, 35},
		// With some one is never there.
		{thick, 1, [][]int{{2, 0, 100}, {1, 0, 100}, {2, 0, 10}}, 10, []int{2, 0, 10}, 40},
		{thick, 1, [][]int{{2, 0, 10}, {2, 0, 100}}, 10, []int{2, 0, 10}, 40},
		{thick, 1, [][]int{{2, 0, 11}, {1, 0, 18}}, 10, nil, fails},
		{thick, 1, [][]int{{1, 0, 0}, {2, 0, 0}}, 41, nil, fails},
		{lateBus, 1, [][]int{{2, 0, 100}, {1, 0, 0}}, 40, []int{2, 0, 100}, 2500},
		{lateBus, 1, [][]int{{2, 0, 100}, {1, 0, 0}}, 41, nil, fails},
		{tenLine, 2, [][]int{{1, 0, 0}, {1, 1, 1}, {1, 1, 0}}, 10, []int{1, 1, 0}, 22},
		{tenLine, 2, [][]int{{1, 0, 0}, {1, 1, 1}}, 10, []int{1, 0, 0}, 37},
		{thick, 1, twenty, 10, []int{1, 0, 0}, 25},
		{thick, 1, twenty[:19], 10, []int{2, 0, 0}, 30},
		{thick, 1, slices.Concat(twenty, twenty[:1]), 10, nil, fails},
		{thick, 1, slices.Repeat(twenty, 1000), 10, nil, fails},
		{thick, 1, nil, 10, nil, fails},
		{thick, 1, [][]int{}, 10, nil, fails},
		// Each one of them has to be a walk.
		{thick, 1, [][]int{{1, 0, 0}, nil}, 10, nil, fails},
		{thick, 1, [][]int{{}, {1, 0, 0}}, 10, nil, fails},
		{thick, 1, [][]int{{1, 0, 0}, {1, 0}}, 10, nil, fails},
		{thick, 1, [][]int{{1, 0, 0}, {1, 0, 0, 0}}, 10, nil, fails},
		{thick, 1, [][]int{{1, 0, 0}, {0, 0, 0}}, 10, nil, fails},
		{thick, 1, [][]int{{1, 0, 0}, {3, 0, 0}}, 10, nil, fails},
		{thick, 1, [][]int{{1, 0, 0}, {-1, 0, 0}}, 10, nil, fails},
		{thick, 1, [][]int{{1, 0, 0}, {1, 1, 0}}, 10, nil, fails},
		{thick, 1, [][]int{{1, 0, 0}, {1, -1, 0}}, 10, nil, fails},
		{thick, 1, [][]int{{1, 0, 0}, {1, 0, 101}}, 10, nil, fails},
		{thick, 1, [][]int{{1, 0, 0}, {1, 0, -1}}, 10, nil, fails},
		{thick, 1, [][]int{{math.MinInt, 0, 0}, {1, 0, 0}}, 10, nil, fails},
		{thick, 1, [][]int{{1, math.MaxInt, 0}, {1, 0, 0}}, 10, nil, fails},
		{thick, 1, [][]int{{1, 0, math.MaxInt}, {1, 0, 0}}, 10, nil, fails},
		{thick, 0, [][]int{{1, 0, 0}}, 10, nil, fails},
		{thick, 2, [][]int{{1, 0, 0}}, 10, nil, fails},
	}
	for _, c := range cases {
		best, arrival, ok := impl.BestChange(tenLine, 0, c.m, c.to, c.walks, c.minute)
		wantBest(t, best, arrival, ok, c.want, c.wantArrival)
	}
}

func TestTimesTogether(t *testing.T) {
	cases := []struct {
		l    impl.Line
		i    int
		m    impl.Line
		j    int
		want []int
	}{
		{tenLine, 0, twelveLine, 0, []int{}},
		{tenLine, 0, tenLine, 0, []int{10, 25, 40}},
		{tenLine, 0, tenLine, 1, []int{}},
		{tenLine, 0, line(0, 20, 3, 0, 10), 0, []int{40}},
		{tenLine, 0, line(0, 20, 3, 0, 10), 1, []int{10}},
		{tenLine, 0, line(0, 5, 60, 0, 10), 0, []int{10, 25, 40}},
		{tenLine, 2, line(2, 5, 60, 0, 10), 0, []int{22, 37, 52}},
		{tenLine, 1, line(15, 30, 2, 0, 10), 0, []int{15, 45}},
		{oneBus, 0, oneBus, 0, []int{7}},
		{oneBus, 1, tenLine, 0, []int{10}},
		{oneBus, 0, tenLine, 0, []int{}},
		{allDay, 0, lateBus, 0, []int{2000}},
		{allDay, 0, thickLine, 0, []int{0}},
		// Buses may be together beyond MaxMinute.
		{lateBus, 1, fullLine, 11, []int{2500}},
		{allDay, 1, line(1901, 1, 10, 0, 100), 1, []int{2001}},
		{thickLine, 0, line(0, 30, 60, 0, 1), 0, []int{0, 30}},
		{tenLine, 3, twelveLine, 0, nil},
		{tenLine, 0, twelveLine, 2, nil},
		{tenLine, -1, twelveLine, 0, nil},
		{tenLine, 0, twelveLine, -1, nil},
		{tenLine, math.MaxInt, twelveLine, math.MinInt, nil},
	}
	for _, c := range cases {
		minutes, ok := impl.TimesTogether(c.l, c.i, c.m, c.j)
		wantNumbers(t, "TimesTogether", minutes, ok, c.want)
		minutes, ok = impl.TimesTogether(c.m, c.j, c.l, c.i)
		wantNumbers(t, "TimesTogether", minutes, ok, c.want)
	}
	for _, l := range badLines {
		minutes, ok := impl.TimesTogether(l, 0, tenLine, 0)
		wantNumbers(t, "TimesTogether", minutes, ok, nil)
		minutes, ok = impl.TimesTogether(tenLine, 0, l, 0)
		wantNumbers(t, "TimesTogether", minutes, ok, nil)
	}
}

func checkTimesOfLines(t *testing.T, lines []impl.Line, stops []int, want []int, gap pair) {
	t.Helper()
	minutes, ok := impl.TimesOfLines(lines, stops)
	wantNumbers(t, "TimesOfLines", minutes, ok, want)
	long, begin, ok := impl.LongestGap(lines, stops)
	wantPair(t, "LongestGap", long, begin, ok, gap)
}

func TestTimesOfLines(t *testing.T) {
	type lines = []impl.Line
	cases := []struct {
		lines []impl.Line
		stops []int
		want  []int
		gap   pair
	}{
		{lines{tenLine, twelveLine}, []int{0, 0}, []int{10, 12, 25, 27, 40}, pair{13, 12}},
		{lines{twelveLine, tenLine}, []int{0, 0}, []int{10, 12, 25, 27, 40}, pair{13, 12}},
		// The first gap of several.
		{lines{tenLine}, []int{0}, []int{10, 25, 40}, pair{15, 10}},
		{lines{tenLine}, []int{2}, []int{22, 37, 52}, pair{15, 22}},
		{lines{tenLine, tenLine}, []int{0, 0}, []int{10, 25, 40}, pair{15, 10}},
		{lines{tenLine, tenLine}, []int{0, 1}, []int{10, 15, 25, 30, 40, 45}, pair{10, 15}},
		{lines{tenLine, oneBus}, []int{0, 1}, []int{10, 25, 40}, pair{15, 10}},
		{lines{tenLine, lateBus}, []int{0, 0}, []int{10, 25, 40, 2000}, pair{1960, 40}},
		{lines{tenLine, lateBus}, []int{0, 1}, []int{10, 25, 40, 2500}, pair{2460, 40}},
		// One minute alone has no gap.
		{lines{oneBus}, []int{0}, []int{7}, noPair},
		{lines{oneBus}, []int{1}, []int{10}, noPair},
		{lines{oneBus, oneBus}, []int{0, 0}, []int{7}, noPair},
		{lines{oneBus, line(10, 1, 1, 0, 1)}, []int{1, 0}, []int{10}, noPair},
		{lines{oneBus, oneBus}, []int{0, 1}, []int{7, 10}, pair{3, 7}},
		{lines{allDay}, []int{0}, []int{0, 2000}, pair{2000, 0}},
		{lines{allDay}, []int{1}, []int{1, 2001}, pair{2000, 1}},
		{lines{allDay, lateBus}, []int{0, 1}, []int{0, 2000, 2500}, pair{2000, 0}},
		{lines{oneBus, allDay, lateBus, twelveLine, tenLine}, []int{0, 0, 1, 1, 2}, []int{0, 7, 20, 22, 35, 37, 52, 2000, 2500}, pair{1948, 52}},
		{lines{oneBus, oneBus, oneBus, oneBus, oneBus}, []int{0, 1, 0, 1, 0}, []int{7, 10}, pair{3, 7}},
		{lines{oneBus, oneBus, oneBus, oneBus, oneBus, oneBus}, []int{0, 1, 0, 1, 0, 1}, nil, noPair},
		{nil, nil, nil, noPair},
		{lines{}, []int{}, nil, noPair},
		{lines{tenLine}, nil, nil, noPair},
		{nil, []int{0}, nil, noPair},
		{lines{tenLine}, []int{0, 0}, nil, noPair},
		{lines{tenLine, twelveLine}, []int{0}, nil, noPair},
		{lines{tenLine, twelveLine}, []int{0, 2}, nil, noPair},
		{lines{tenLine, twelveLine}, []int{3, 0}, nil, noPair},
		{lines{tenLine, twelveLine}, []int{0, -1}, nil, noPair},
		{lines{tenLine, twelveLine}, []int{math.MinInt, 0}, nil, noPair},
		{lines{tenLine, twelveLine}, []int{math.MaxInt, 0}, nil, noPair},
		{make([]impl.Line, 100000), make([]int, 100000), nil, noPair},
	}
	for _, c := range cases {
		checkTimesOfLines(t, c.lines, c.stops, c.want, c.gap)
	}
	for _, l := range badLines {
		checkTimesOfLines(t, lines{l}, []int{0}, nil, noPair)
		checkTimesOfLines(t, lines{l, tenLine}, []int{0, 0}, nil, noPair)
		checkTimesOfLines(t, lines{tenLine, twelveLine, l}, []int{0, 0, 0}, nil, noPair)
	}
}

func TestFullLines(t *testing.T) {
	lines, stops := make([]impl.Line, 5), []int{0, 0, 0, 0, 0}
	var want []int
	for k := range lines {
		lines[k] = line(k*200, 2, 60, 0, 1)
		for bus := range 60 {
			want = append(want, k*200+2*bus)
		}
	}
	checkTimesOfLines(t, lines, stops, want, pair{82, 118})
}

func TestDropBus(t *testing.T) {
	cases := []struct {
		line        impl.Line
		least, want int
	}{
		{tenLine, 1, 1},
		{tenLine, 2, 2},
		{tenLine, 3, 3},
		{tenLine, 4, 3},
		{tenLine, 60, 3},
		{oneBus, 1, 1},
		{oneBus, 60, 1},
		{fullLine, 1, 1},
		{fullLine, 59, 59},
		{fullLine, 60, 60},
		{tenLine, 0, fails},
		{tenLine, -1, fails},
		{tenLine, 61, fails},
		{fullLine, 61, fails},
		{tenLine, math.MaxInt, fails},
		{tenLine, math.MinInt, fails},
	}
	for _, c := range cases {
		got, ok := impl.DropBus(c.line, c.least)
		wantLine(t, "DropBus", got, ok, c.want != fails, line(c.line.First, c.line.Every, c.want, c.line.Stops...))
	}
	for _, l := range badLines {
		got, ok := impl.DropBus(l, 1)
		wantLine(t, "DropBus", got, ok, false, impl.Line{})
	}
}

func TestLineText(t *testing.T) {
	cases := []struct {
		line impl.Line
		text string
	}{
		{tenLine, "10+15x3:0,5,12"},
		{twelveLine, "12+15x2:0,8"},
		{oneBus, "7+2000x1:0,3"},
		{lateBus, "2000+1x1:0,500"},
		{allDay, "0+2000x2:0,1"},
		{thickLine, "0+1x60:0,500"},
		{fullLine, "53+33x60:0,1,2,3,4,5,6,7,8,9,10,500"},
	}
	for _, c := range cases {
		if text, ok := impl.LineText(c.line); !ok || text != c.text {
			t.Errorf("LineText %v: got %q, %v", c.line, text, ok)
		}
		l, ok := impl.ParseLine(c.text)
		wantLine(t, "ParseLine", l, ok, true, c.line)
	}
	for _, l := range badLines {
		if text, ok := impl.LineText(l); ok || text != "" {
			t.Errorf("LineText %.20v: got %q, %v", l, text, ok)
		}
	}
}

func TestParseLineOfNoText(t *testing.T) {
	for _, text := range []string{"", ":", "+", "x", "+x:", "+x:,", "10", "10+15", "10+15x3", "10+15x3:", "10+15x3:0", "10+15x3:0,", "10+15x3:,5", "10+15x3:0,,5",
		"10+15x3:0,5,", "10+15x3:,0,5", "10+15x3:0 5", "10+15x3:0, 5", "10+15x3: 0,5", " 10+15x3:0,5", "10+15x3:0,5 ", "10 +15x3:0,5", "10+15 x3:0,5", "10+ 15x3:0,5",
		"10+15x3:0,5\n", "10+15x3:0,5\x00", "10+15X3:0,5", "10-15x3:0,5", "10+15*3:0,5", "10+15x3;0,5", "10+15x3:0;5", "10+15x3:0:5", "10+15x3:0,5:", "10+15x3::0,5",
		":10+15x3:0,5", "10x3+15:0,5", "10x15+3:0,5", "15x3:0,5", "10+x3:0,5", "10+15x:0,5", "+15x3:0,5", "10+15:0,5", "10x3:0,5", "10++15x3:0,5", "10+15xx3:0,5",
		"10+15x3x3:0,5", "10+15+15x3:0,5", "+10+15x3:0,5", "10++15x+3:0,5", "10+15x+3:0,5", "10+15x3:0,+5", "10+15x3:+0,5", "-10+15x3:0,5", "10+-15x3:0,5", "10+15x-3:0,5",
		"10+15x3:0,-5", "10+15x3:-0,5", "-0+15x3:0,5", "010+15x3:0,5", "10+015x3:0,5", "10+15x03:0,5", "10+15x3:0,05", "10+15x3:00,5", "00+15x3:0,5",
		"2001+15x1:0,5", "10+0x3:0,5", "10+2001x1:0,5", "10+15x0:0,5", "10+15x61:0,5", "1971+15x3:0,5", "10+15x3:1,5", "10+15x3:0,0", "10+15x3:0,5,5", "10+15x3:0,5,4",
		"10+15x3:0,501", "10+15x3:0,1,2,3,4,5,6,7,8,9,10,11,12", "10+15x3:0,1,2,3,4,5,6,7,8,9,10,11,", "10.0+15x3:0,5", "1e1+15x3:0,5", "0xa+15x3:0,5", "10+0xfx3:0,5",
		"1_0+15x3:0,5", "a+bxc:d,e", "10+15x3:0,y", "10+15x3:x,5", "\xff+15x3:0,5", "１0+15x3:0,5", "10＋15x3:0,5", "10+15×3:0,5", "10+15x3：0,5", "10+15x3:0，5",
		"18446744073709551626+15x3:0,5", "10+18446744073709551631x3:0,5", "10+15x18446744073709551619:0,5", "10+15x3:0,18446744073709551621", "9223372036854775808+15x3:0,5",
		"10+15x3:0,9223372036854775808", strings.Repeat("9", 10000) + "+15x3:0,5", "10+15x3:0," + strings.Repeat("0", 10000) + "5", strings.Repeat("+", 100000),
		strings.Repeat("x", 100000), strings.Repeat(":", 100000), strings.Repeat(",", 100000), "10+15x3:0" + strings.Repeat(",5", 100000), strings.Repeat("10+15x3:0,5", 10000)} {
		if l, ok := impl.ParseLine(text); ok || !sameLine(l, impl.Line{}) {
			t.Errorf("ParseLine %.40q: got %.20v, %v", text, l, ok)
		}
	}
}
