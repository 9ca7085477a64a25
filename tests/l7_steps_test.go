package tests

import (
	"slices"
	"testing"

	"loop.example/g01335/impl"
)

// lastMinute is the last one at which a bus may be at a stop, and noBus is there if none is.
const lastMinute, noBus = 2500, -1

// day is a line whose buses are driven minute by minute, as the document tells it, to hold the answers of chapter 7 against.
type day struct {
	impl.Line
	// at tells for each minute which bus is at each stop.
	at [][]int
	// been tells for each minute at which stop each bus has been last: noBus before the first one and beyond the last one.
	been [][]int
}

func driveDay(l impl.Line) day {
	d := day{Line: l}
	since, last := make([]int, l.Count), make([]int, l.Count)
	for bus := range since {
		since[bus], last[bus] = -l.First-bus*l.Every, noBus
	}
	for range lastMinute + 1 {
		at := slices.Repeat([]int{noBus}, len(l.Stops))
		for bus := range since {
			if last[bus] == len(l.Stops)-1 {
				last[bus] = noBus
			}
			if k := slices.Index(l.Stops, since[bus]); k >= 0 {
				at[k], last[bus] = bus, k
			}
			since[bus]++
		}
		d.at, d.been = append(d.at, at), append(d.been, slices.Clone(last))
	}
	return d
}

// waitAt waits minute by minute at a stop for a bus, and returns which one it is, and when.
func (d day) waitAt(stop int, minute int) pair {
	for now := minute; now <= lastMinute; now++ {
		if bus := d.at[now][stop]; bus != noBus {
			return pair{bus, now}
		}
	}
	return noPair
}

// rideBy waits at a stop, and sits in the bus until it is at a later one, or returns fails.
func (d day) rideBy(from int, to int, minute int) int {
	got := d.waitAt(from, minute)
	if got == noPair {
		return fails
	}
	now := got.two
	for d.at[now][to] != got.one {
		now++
	}
	return now
}

// lastBy goes back minute by minute to the last bus at a stop, and on to an earlier stop of it.
func (d day) lastBy(from int, to int, minute int) pair {
	for now := minute; now >= 0; now-- {
		if bus := d.at[now][to]; bus != noBus {
			for d.at[now][from] != bus {
				now--
			}
			return pair{bus, now}
		}
	}
	return noPair
}

func (d day) minutesAt(stop int) []int {
	minutes := []int{}
	for now, at := range d.at {
		if at[stop] != noBus {
			minutes = append(minutes, now)
		}
	}
	return minutes
}

// stops draws stops that are at most so far, or at least as far as they must be.
func (d *drawer) stops(count int, far int) []int {
	stops := []int{0}
	for left := count - 2; left >= 0; left-- {
		last := stops[len(stops)-1]
		stops = append(stops, d.draw(last+1, max(last+1, far-left)))
	}
	return stops
}

// line draws a line of at most so many buses, with the first one by a minute, and so many minutes between them at most.
func (d *drawer) line(buses int, first int, every int, far int) impl.Line {
	l := line(d.draw(0, first), d.draw(1, every), d.draw(1, buses), d.stops(d.draw(2, 12), far)...)
	l.Count = min(l.Count, (2000-l.First)/l.Every+1)
	return l
}

func (d *drawer) lines() []impl.Line {
	return []impl.Line{d.line(60, 100, 30, 500), d.line(60, 2000, 2000, 500), d.line(10, 20, 9, 30), d.line(1, 2000, 2000, 500), d.line(60, 20, 2, 12),
		d.line(3, 1990, 5, 500)}
}

func TestLinesAgainstDays(t *testing.T) {
	d := drawer{z: 24}
	for _, l := range goodLines {
		checkDay(t, &d, driveDay(l))
	}
	for range 40 {
		for _, l := range d.lines() {
			checkDay(t, &d, driveDay(l))
		}
	}
}

func checkDay(t *testing.T, d *drawer, day day) {
	t.Helper()
	for bus := range day.Count {
		checkBus(t, day, bus, d.draw(0, 2000))
	}
	last := len(day.Stops) - 1
	for range 5 {
		from := d.draw(0, last-1)
		to := d.draw(from+1, last)
		checkRideBy(t, day, from, to, d.draw(0, 2000))
		checkRideBy(t, day, from, to, d.draw(0, 60))
		checkMean(t, day, from, d.draw(0, 2000), d.draw(0, 2000))
		checkMean(t, day, to, d.draw(0, 30), d.draw(0, 60))
		// Just when a bus is at the stop, and a minute before it and behind it.
		bus := d.draw(0, day.Count-1)
		for _, stop := range []int{from, to} {
			for near := -1; near <= 1; near++ {
				minute := day.First + bus*day.Every + day.Stops[stop] + near
				if isIn(minute, 0, 2000) {
					checkRideBy(t, day, from, to, minute)
					checkBus(t, day, bus, minute)
					checkMean(t, day, stop, minute-min(minute, 3), minute)
				}
			}
		}
	}
}

func checkBus(t *testing.T, day day, bus int, minute int) {
	t.Helper()
	for stop := range day.Stops {
		n, ok := impl.TimeAtStop(day.Line, bus, stop)
		if !ok || n > lastMinute || day.at[n][stop] != bus {
			t.Errorf("TimeAtStop %v %d %d: got %d, %v", day.Line, bus, stop, n, ok)
		}
	}
	stop, isThere := day.been[minute][bus], false
	if stop == noBus {
		stop = fails
	} else {
		isThere = day.at[minute][stop] == bus
	}
	checkWhere(t, day.Line, bus, minute, stop, isThere)
	onWay := []int{}
	for k, been := range day.been[minute] {
		if been != noBus {
			onWay = append(onWay, k)
		}
	}
	buses, ok := impl.BusesOnWay(day.Line, minute)
	wantNumbers(t, "BusesOnWay", buses, ok, onWay)
}

func checkRideBy(t *testing.T, day day, from int, to int, minute int) {
	t.Helper()
	checkNext(t, day.Line, from, minute, day.waitAt(from, minute))
	checkNext(t, day.Line, to, minute, day.waitAt(to, minute))
	checkRide(t, day.Line, from, to, minute, day.Stops[to]-day.Stops[from], day.rideBy(from, to, minute))
	checkRide(t, day.Line, to, from, minute, fails, fails)
	bus, at, ok := impl.LastBusBy(day.Line, from, to, minute)
	wantPair(t, "LastBusBy", bus, at, ok, day.lastBy(from, to, minute))
	bus, at, ok = impl.LastBusBy(day.Line, to, from, minute)
	wantPair(t, "LastBusBy", bus, at, ok, noPair)
}

func checkMean(t *testing.T, day day, stop int, from int, to int) {
	t.Helper()
	want, sum := none, 0
	for minute := from; minute < to; minute++ {
		next := day.waitAt(stop, minute)
		if next == noPair {
			want = none
			break
		}
		sum += next.two - minute
		want = partOf(sum, minute+1-from)
	}
	num, den, ok := impl.MeanWait(day.Line, stop, from, to)
	wantPart(t, "MeanWait", num, den, ok, want)
}

// TestEachMinuteOfSmallLines takes all lines of few buses and short ways, and all minutes at which something goes on.
func TestEachMinuteOfSmallLines(t *testing.T) {
	for code := range power(3, 5) {
		stops := []int{0, 1 + code%3, 2 + code%3 + code/3%3}
		day := driveDay(line(code/9%3, 1+code/27%3, 1+code/81, stops...))
		for minute := range 18 {
			for bus := range day.Count {
				checkBus(t, day, bus, minute)
			}
			for from := range stops {
				for to := from + 1; to < len(stops); to++ {
					checkRideBy(t, day, from, to, minute)
				}
				checkMean(t, day, from, minute, 4)
				checkMean(t, day, from, 1, minute)
			}
		}
	}
}

// changeOn goes from one line to the other one on foot, minute by minute.
func changeOn(d day, from int, off int, e day, on int, to int, walk int, minute int) (int, int) {
	now := d.rideBy(from, off, minute)
	if now == fails {
		return fails, fails
	}
	for range walk {
		now++
	}
	arrival := e.rideBy(on, to, now)
	if arrival == fails {
		return fails, fails
	}
	return now, arrival
}

func TestChangesAgainstDays(t *testing.T) {
	d := drawer{z: 25}
	for range 40 {
		lines := d.lines()
		for _, l := range lines {
			first, second := driveDay(l), driveDay(lines[d.draw(0, len(lines)-1)])
			for range 5 {
				checkWalks(t, &d, first, second, d.draw(0, 2000), 100)
				checkWalks(t, &d, first, second, d.draw(0, 50), 10)
				checkWalks(t, &d, second, first, first.First, 3)
			}
		}
	}
}

func checkWalks(t *testing.T, d *drawer, first day, second day, minute int, far int) {
	t.Helper()
	from, to := d.draw(0, len(first.Stops)-2), d.draw(1, len(second.Stops)-1)
	walks := make([][]int, d.draw(1, 20))
	var best []int
	earliest := fails
	for k := range walks {
		w := []int{d.draw(from+1, len(first.Stops)-1), d.draw(0, to-1), d.draw(0, far)}
		walks[k] = w
		there, arrival := changeOn(first, from, w[0], second, w[1], to, w[2], minute)
		checkChange(t, first.Line, from, w[0], second.Line, w[1], to, w[2], minute, there, arrival)
		if arrival != fails && (best == nil || arrival < earliest) {
			best, earliest = w, arrival
		}
	}
	got, arrival, ok := impl.BestChange(first.Line, from, second.Line, to, walks, minute)
	wantBest(t, got, arrival, ok, best, earliest)
}

func TestTimesOfLinesAgainstDays(t *testing.T) {
	d := drawer{z: 26}
	for range 60 {
		for count := 1; count <= 5; count++ {
			lines, stops := d.lines()[:count], make([]int, count)
			all, days := make([]bool, lastMinute+1), make([]day, count)
			for k := range lines {
				if d.draw(0, 2) == 0 {
					lines[k] = lines[d.draw(0, k)]
				}
				stops[k], days[k] = d.draw(0, len(lines[k].Stops)-1), driveDay(lines[k])
				for _, minute := range days[k].minutesAt(stops[k]) {
					all[minute] = true
				}
			}
			checkAllTimes(t, lines, stops, all)
			checkTogether(t, days[0], stops[0], days[count-1], stops[count-1])
		}
	}
}

// checkAllTimes takes for each minute whether a bus is at a stop.
func checkAllTimes(t *testing.T, lines []impl.Line, stops []int, all []bool) {
	t.Helper()
	var minutes []int
	gap := noPair
	for now, isThere := range all {
		if !isThere {
			continue
		}
		if last := len(minutes) - 1; last >= 0 && now-minutes[last] > gap.one {
			gap = pair{now - minutes[last], minutes[last]}
		}
		minutes = append(minutes, now)
	}
	checkTimesOfLines(t, lines, stops, minutes, gap)
}

func checkTogether(t *testing.T, first day, i int, second day, j int) {
	t.Helper()
	want := []int{}
	for now := range lastMinute + 1 {
		if first.at[now][i] != noBus && second.at[now][j] != noBus {
			want = append(want, now)
		}
	}
	minutes, ok := impl.TimesTogether(first.Line, i, second.Line, j)
	wantNumbers(t, "TimesTogether", minutes, ok, want)
	minutes, ok = impl.TimesTogether(second.Line, j, first.Line, i)
	wantNumbers(t, "TimesTogether", minutes, ok, want)
}

// TestDroppedBusesAreTheLastOnes drives what is left, and holds it against the whole line.
func TestDroppedBusesAreTheLastOnes(t *testing.T) {
	d := drawer{z: 27}
	for range 20 {
		for _, l := range d.lines() {
			least := d.draw(1, 60)
			got, ok := impl.DropBus(l, least)
			if !ok || !impl.IsLine(got) || got.Count > least || least >= l.Count && !sameLine(got, l) {
				t.Fatalf("DropBus %v %d: got %v, %v", l, least, got, ok)
			}
			whole, left := driveDay(l), driveDay(got)
			for stop := range l.Stops {
				if !slices.Equal(left.minutesAt(stop), whole.minutesAt(stop)[:min(least, l.Count)]) {
					t.Errorf("DropBus %v %d: got %v", l, least, got)
				}
			}
		}
	}
}

func TestLineTextsThereAndBack(t *testing.T) {
	d := drawer{z: 28}
	for range 3000 {
		for _, l := range d.lines() {
			text, ok := impl.LineText(l)
			if again, parsed := impl.ParseLine(text); !ok || !parsed || !sameLine(again, l) {
				t.Fatalf("ParseLine %q: got %v, %v, not %v", text, again, parsed, l)
			}
		}
	}
}
