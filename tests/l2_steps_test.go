package tests

import (
	"math/big"
	"slices"
	"testing"

	"loop.example/g01335/impl"
)

// The answers of chapter 2 are held here against walkers whose places are looked at step by step:
// two walkers with other speeds can only be together at times in steps of 1 / the difference of these.

func partOf(num int, den int) part {
	r := big.NewRat(int64(num), int64(den))
	return part{int(r.Num().Int64()), int(r.Denom().Int64())}
}

func comparePlaces(a part, b part) int {
	return big.NewRat(int64(a.num), int64(a.den)).Cmp(big.NewRat(int64(b.num), int64(b.den)))
}

func stepsOf(w impl.Walker, v impl.Walker) int {
	return max(w.Speed-v.Speed, v.Speed-w.Speed, 1)
}

// stepMeeting looks at so many steps as are enough for walkers less than 40 places apart.
func stepMeeting(w impl.Walker, v impl.Walker) (part, part) {
	den := stepsOf(w, v)
	for num := range 40 {
		if w.Place*den+w.Speed*num == v.Place*den+v.Speed*num {
			return partOf(num, den), partOf(w.Place*den+w.Speed*num, den)
		}
	}
	return none, none
}

func TestMeetingsAgainstSteps(t *testing.T) {
	for code := range 15 * 9 * 15 * 9 {
		w, v := walker(code%15-7, code/15%9-4), walker(code/135%15-7, code/2025-4)
		time, place := stepMeeting(w, v)
		num, den, ok := impl.MeetingTime(w, v)
		wantPart(t, "MeetingTime", num, den, ok, time)
		num, den, ok = impl.MeetingPlace(w, v)
		wantPart(t, "MeetingPlace", num, den, ok, place)
	}
}

// drawer draws the same numbers each time.
type drawer struct {
	z int
}

func (d *drawer) draw(least int, most int) int {
	d.z = (d.z*227 + 2027) % 1000003
	return least + d.z%(most-least+1)
}

func (d *drawer) walkers(place int, speed int) []impl.Walker {
	list := make([]impl.Walker, d.draw(1, 8))
	for k := range list {
		list[k] = walker(d.draw(-place, place), d.draw(-speed, speed))
	}
	return list
}

// TestWalkersMeetWhereBothAre holds what is told of large walkers together.
func TestWalkersMeetWhereBothAre(t *testing.T) {
	d := drawer{z: 1}
	for range 20000 {
		w, v := walker(d.draw(-1000, 1000), d.draw(-100, 100)), walker(d.draw(-1000, 1000), d.draw(-100, 100))
		num, den, ok := impl.MeetingTime(w, v)
		behind, nearer := v.Place-w.Place, w.Speed-v.Speed
		if ok != (behind*nearer > 0 || behind == 0) {
			t.Errorf("MeetingTime %v %v: got %v", w, v, ok)
		}
		if !ok {
			continue
		}
		placeNum, placeDen, ok := impl.MeetingPlace(w, v)
		wantPart(t, "MeetingPlace", placeNum, placeDen, ok, partOf(w.Place*den+w.Speed*num, den))
		n, m, ok := impl.WalkerPlace(w, num, den)
		wantPart(t, "WalkerPlace at a meeting", n, m, ok, part{placeNum, placeDen})
		n, m, ok = impl.WalkerPlace(v, num, den)
		wantPart(t, "WalkerPlace at a meeting", n, m, ok, part{placeNum, placeDen})
		n, m, ok = impl.GapAt(w, v, num, den)
		wantPart(t, "GapAt a meeting", n, m, ok, part{0, 1})
	}
}

func TestPlacesAtTimes(t *testing.T) {
	d := drawer{z: 2}
	for range 20000 {
		w, v := walker(d.draw(-1000, 1000), d.draw(-100, 100)), walker(d.draw(-1000, 1000), d.draw(-100, 100))
		num, den := d.draw(0, 1000000), d.draw(1, 1000)
		one, two := w.Place*den+w.Speed*num, v.Place*den+v.Speed*num
		n, m, ok := impl.WalkerPlace(w, num, den)
		wantPart(t, "WalkerPlace", n, m, ok, partOf(one, den))
		n, m, ok = impl.GapAt(w, v, num, den)
		wantPart(t, "GapAt", n, m, ok, partOf(max(one-two, two-one), den))
	}
}

// stepOrder takes the walker farthest to the left out again and again.
func stepOrder(list []impl.Walker, num int, den int) []int {
	order, taken := []int{}, make([]bool, len(list))
	for range list {
		next := -1
		for k, w := range list {
			if taken[k] {
				continue
			}
			if next < 0 || w.Place*den+w.Speed*num < list[next].Place*den+list[next].Speed*num {
				next = k
			}
		}
		taken[next] = true
		order = append(order, next)
	}
	return order
}

func stepMeetings(list []impl.Walker) [][]int {
	rows := [][]int{}
	for j := range list {
		for k := range j {
			if time, _ := stepMeeting(list[k], list[j]); time != none {
				rows = append(rows, []int{k, j, time.num, time.den})
			}
		}
	}
	slices.SortFunc(rows, func(a, b []int) int {
		if c := comparePlaces(part{a[2], a[3]}, part{b[2], b[3]}); c != 0 {
			return c
		}
		return slices.Compare(a[:2], b[:2])
	})
	return rows
}

// stepLeaders looks at the time 0 and at the times of all meetings.
func stepLeaders(list []impl.Walker, meetings [][]int) []int {
	times := []part{{0, 1}}
	for _, row := range meetings {
		times = append(times, part{row[2], row[3]})
	}
	var leaders []int
	for _, at := range times {
		best := 0
		for k, w := range list {
			ahead := (w.Place-list[best].Place)*at.den + (w.Speed-list[best].Speed)*at.num
			if ahead > 0 || ahead == 0 && w.Speed > list[best].Speed {
				best = k
			}
		}
		if len(leaders) == 0 || leaders[len(leaders)-1] != best {
			leaders = append(leaders, best)
		}
	}
	return leaders
}

func TestManyWalkersAgainstSteps(t *testing.T) {
	d := drawer{z: 3}
	for range 6000 {
		list := d.walkers(d.draw(1, 12), d.draw(1, 6))
		meetings := stepMeetings(list)
		rows, ok := impl.AllMeetings(list)
		wantRows(t, "AllMeetings", rows, ok, meetings)
		n, ok := impl.CountMeetings(list)
		wantInt(t, "CountMeetings", n, ok, len(meetings))
		leaders, ok := impl.LeadersOf(list)
		wantNumbers(t, "LeadersOf", leaders, ok, stepLeaders(list, meetings))
		// Behind the last meeting those at one place have one speed too.
		last, ok := impl.LastOrder(list)
		wantNumbers(t, "LastOrder", last, ok, stepOrder(list, 1000, 1))
		num, den := d.draw(0, 24), d.draw(1, 6)
		order, ok := impl.WalkersAt(list, num, den)
		wantNumbers(t, "WalkersAt", order, ok, stepOrder(list, num, den))
		text, ok := impl.WalkersText(list)
		again, parsed := impl.ParseWalkers(text)
		if !ok || !parsed || !slices.Equal(again, list) {
			t.Errorf("ParseWalkers %q: got %v, %v, not %v", text, again, parsed, list)
		}
	}
}

// ringSteps returns the steps up to a time at which two walkers with two speeds are at one place of a ring.
func ringSteps(around int, w impl.Walker, v impl.Walker, time int) []int {
	den := stepsOf(w, v)
	var steps []int
	for num := 0; num <= time*den; num++ {
		if ((w.Place-v.Place)*den+(w.Speed-v.Speed)*num)%(around*den) == 0 {
			steps = append(steps, num)
		}
	}
	return steps
}

func ringPart(around int, num int, den int) part {
	for num < 0 {
		num += around * den
	}
	return partOf(num%(around*den), den)
}

func TestRingsAgainstSteps(t *testing.T) {
	for around := 1; around <= 7; around++ {
		for code := range 9 * 7 * 9 * 7 {
			checkRing(t, around, walker(code%9-4, code/9%7-3), walker(code/63%9-4, code/567-3))
		}
	}
}

// TestLargeRingsAgainstSteps takes rings and walkers as large as they may be.
func TestLargeRingsAgainstSteps(t *testing.T) {
	d := drawer{z: 4}
	for range 40 {
		around := d.draw(1, 1000)
		checkRing(t, around, walker(d.draw(-1000, 1000), d.draw(-100, 100)), walker(d.draw(-1000, 1000), d.draw(-100, 100)))
	}
}

func checkRing(t *testing.T, around int, w impl.Walker, v impl.Walker) {
	t.Helper()
	if w.Speed == v.Speed {
		checkOneSpeed(t, around, w, v)
		return
	}
	den, late := stepsOf(w, v), 2*around
	steps := ringSteps(around, w, v, late)
	num, m, ok := impl.RingTime(around, w, v)
	wantPart(t, "RingTime", num, m, ok, partOf(steps[0], den))
	for k := 1; k < len(steps); k++ {
		num, m, ok = impl.RingGap(around, w, v)
		wantPart(t, "RingGap", num, m, ok, partOf(steps[k]-steps[k-1], den))
	}
	for time := 0; time <= min(late, 1000); time += 1 + time/5 {
		count := 0
		for _, step := range steps {
			if step <= time*den {
				count++
			}
		}
		n, ok := impl.CountRingMeetings(around, w, v, time)
		wantInt(t, "CountRingMeetings", n, ok, count)
	}
	want := map[part]bool{}
	for _, step := range steps {
		want[ringPart(around, w.Place*den+w.Speed*step, den)] = true
	}
	places, ok := impl.RingPlaces(around, w, v)
	if !ok || len(places) != len(want) {
		t.Errorf("RingPlaces %d %v %v: got %v, %v, not %d places", around, w, v, places, ok, len(want))
	}
	last := part{-1, 1}
	for _, row := range places {
		place := part{row[0], row[1]}
		if !want[place] || comparePlaces(last, place) >= 0 {
			t.Errorf("RingPlaces %d %v %v: got %v", around, w, v, places)
		}
		last = place
	}
}

func checkOneSpeed(t *testing.T, around int, w impl.Walker, v impl.Walker) {
	t.Helper()
	want := none
	if (w.Place-v.Place)%around == 0 {
		want = part{0, 1}
	}
	num, den, ok := impl.RingTime(around, w, v)
	wantPart(t, "RingTime", num, den, ok, want)
	num, den, ok = impl.RingGap(around, w, v)
	wantPart(t, "RingGap", num, den, ok, none)
	n, ok := impl.CountRingMeetings(around, w, v, 9)
	wantInt(t, "CountRingMeetings", n, ok, fails)
	places, ok := impl.RingPlaces(around, w, v)
	wantRows(t, "RingPlaces", places, ok, nil)
}

// TestAllAtStartAgainstRounds looks at the times at which one who moves is at its start.
func TestAllAtStartAgainstRounds(t *testing.T) {
	d := drawer{z: 5}
	for n := range 4000 {
		list := d.walkers(20, 1+n%30)
		around := d.draw(1, 1000)
		num, den, ok := impl.AllAtStart(around, list)
		wantPart(t, "AllAtStart", num, den, ok, startAgain(around, list))
	}
}

func startAgain(around int, list []impl.Walker) part {
	mover := slices.IndexFunc(list, func(w impl.Walker) bool { return w.Speed != 0 })
	if mover < 0 {
		return none
	}
	pace := max(list[mover].Speed, -list[mover].Speed)
	for rounds := 1; ; rounds++ {
		away := slices.ContainsFunc(list, func(w impl.Walker) bool { return w.Speed*rounds%pace != 0 })
		if !away {
			return partOf(around*rounds, pace)
		}
	}
}
