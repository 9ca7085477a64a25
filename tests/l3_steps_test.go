package tests

import (
	"slices"
	"testing"

	"loop.example/g01335/impl"
)

// track is a track whose runners are moved time by time, as the document tells it, to hold the answers of chapter 3 against.
// Its rows are by times, and hold what is told of each runner.
type track struct {
	lap    int
	list   []impl.Runner
	far    [][]int
	places [][]int
	laps   [][]int
}

func runTrack(lap int, list []impl.Runner, until int) track {
	tr := track{lap: lap, list: list}
	far, places := make([]int, len(list)), make([]int, len(list))
	for k, r := range list {
		far[k], places[k] = r.Start, r.Start
	}
	laps := make([]int, len(list))
	for range until + 1 {
		tr.far = append(tr.far, slices.Clone(far))
		tr.places = append(tr.places, slices.Clone(places))
		tr.laps = append(tr.laps, slices.Clone(laps))
		for k, r := range list {
			far[k] += r.Speed
			places[k] = around(lap, places[k]+r.Speed)
			for far[k]-r.Start >= lap*(laps[k]+1) {
				laps[k]++
			}
		}
	}
	return tr
}

func around(lap int, place int) int {
	for place >= lap {
		place -= lap
	}
	return place
}

// together returns the times at which all are at one place.
func (tr track) together() []int {
	times := []int{}
	for time, now := range tr.places {
		if slices.Min(now) == slices.Max(now) {
			times = append(times, time)
		}
	}
	return times
}

// away goes place by place from a runner, both ways at once, until another one is there.
func (tr track) away(k int, time int) int {
	now := tr.places[time]
	for steps := 0; ; steps++ {
		for j := range now {
			there := now[j] == around(tr.lap, now[k]+steps) || now[k] == around(tr.lap, now[j]+steps)
			if j != k && there {
				return steps
			}
		}
	}
}

// overtakings counts, by the words of the document, what the first runner does until a time.
func (tr track) overtakings(until int) int {
	if tr.list[0].Speed <= tr.list[1].Speed {
		return 0
	}
	atFirst, then, count := tr.far[0][0]-tr.far[0][1], tr.far[until][0]-tr.far[until][1], 0
	for k := -2; k*tr.lap <= then; k++ {
		if atFirst <= k*tr.lap && then > k*tr.lap {
			count++
		}
	}
	return count
}

func firstOr(times []int) int {
	if len(times) == 0 {
		return fails
	}
	return times[0]
}

func TestTracksAgainstSteps(t *testing.T) {
	for lap := 2; lap <= 6; lap++ {
		for code := range lap * 8 * lap * 8 {
			checkTwo(t, lap, runner(code%lap, code/lap%8+1), runner(code/lap/8%lap, code/lap/8/lap+1), 1+code%3)
		}
	}
}

// TestLargeTracksAgainstSteps takes tracks and runners as large as they may be.
func TestLargeTracksAgainstSteps(t *testing.T) {
	d := drawer{z: 6}
	for n := range 200 {
		lap := d.draw(2, 1000)
		if n%8 == 0 {
			lap = 1000
		}
		checkTwo(t, lap, runner(d.draw(0, lap-1), d.draw(1, 100)), runner(d.draw(0, lap-1), d.draw(1, 100)), d.draw(1, 3))
	}
}

// checkTwo looks at two laps of times, behind which nothing new is to be seen.
func checkTwo(t *testing.T, lap int, r impl.Runner, s impl.Runner, laps int) {
	t.Helper()
	until := 2 * lap
	tr := runTrack(lap, []impl.Runner{r, s}, until)
	for time := 0; time <= until; time += 1 + lap/50 {
		n, ok := impl.PlaceOnTrack(lap, r, time)
		wantInt(t, "PlaceOnTrack", n, ok, tr.places[time][0])
		n, ok = impl.LapsAt(lap, r, time)
		wantInt(t, "LapsAt", n, ok, tr.laps[time][0])
		n, ok = impl.LeadBetween(lap, r, s, time)
		wantInt(t, "LeadBetween", n, ok, tr.far[time][0]-tr.far[time][1])
		n, ok = impl.CountOvertakings(lap, r, s, time)
		wantInt(t, "CountOvertakings", n, ok, tr.overtakings(time))
	}
	together := tr.together()
	times, ok := impl.MeetingTimes(lap, r, s, until)
	wantNumbers(t, "MeetingTimes", times, ok, together)
	met, place := []int{}, 0
	for _, time := range together {
		met = append(met, tr.places[time][0])
		place = met[0]
	}
	time, where, ok := impl.FirstMeet(lap, r, s)
	wantInt(t, "FirstMeet", time, ok, firstOr(together))
	wantInt(t, "FirstMeet's place", where, true, place)
	slices.Sort(met)
	places, ok := impl.MeetingPlaces(lap, r, s)
	wantNumbers(t, "MeetingPlaces", places, ok, slices.Compact(met))
	checkLaps(t, lap, r, s, laps)
}

// checkLaps looks for the time at which a runner has laps behind.
func checkLaps(t *testing.T, lap int, r impl.Runner, s impl.Runner, laps int) {
	t.Helper()
	num, den, ok := impl.TimeOfLaps(lap, r, laps)
	wantPart(t, "TimeOfLaps", num, den, ok, partOf(laps*lap, r.Speed))
	tr := runTrack(lap, []impl.Runner{r, s}, laps*lap)
	want := fails
	for _, now := range tr.far {
		if now[0]-r.Start == laps*lap {
			want = now[0] - now[1]
		}
	}
	n, ok := impl.HandicapFor(lap, r, s, laps)
	wantInt(t, "HandicapFor", n, ok, want)
	if ok {
		lead, fine := impl.LeadBetween(lap, r, s, num)
		wantInt(t, "LeadBetween at that time", lead, fine && den == 1, n)
	}
}

func (d *drawer) runners(lap int, speed int) []impl.Runner {
	list := make([]impl.Runner, d.draw(1, 6))
	for k := range list {
		list[k] = runner(d.draw(0, lap-1), d.draw(1, speed))
	}
	return list
}

func TestManyRunnersAgainstSteps(t *testing.T) {
	d := drawer{z: 7}
	for n := range 3000 {
		lap := d.draw(2, 12)
		if n%100 == 0 {
			lap = d.draw(500, 1000)
		}
		list := d.runners(lap, d.draw(1, 100))
		if n%2 == 0 {
			// With few starts and speeds more of them are together.
			list = d.runners(2, d.draw(1, 3))
		}
		checkMany(t, lap, list, d.draw(1, 100), d.draw(0, 2*lap))
	}
}

func checkMany(t *testing.T, lap int, list []impl.Runner, laps int, time int) {
	t.Helper()
	tr := runTrack(lap, list, 2*lap)
	n, ok := impl.AllRunnersTogether(lap, list)
	wantInt(t, "AllRunnersTogether", n, ok, firstOr(tr.together()))
	period := 1
	for !slices.Equal(tr.places[period], tr.places[0]) {
		period++
	}
	n, ok = impl.RunPeriod(lap, list)
	wantInt(t, "RunPeriod", n, ok, period)
	order, ok := impl.OrderOnTrack(lap, list, time)
	wantNumbers(t, "OrderOnTrack", order, ok, tr.order(time))
	winners, ok := impl.WinnerOfLaps(lap, list, laps)
	wantNumbers(t, "WinnerOfLaps", winners, ok, winnersOf(lap, list, laps))
	for k := range list {
		away, lonely := fails, fails
		if len(list) > 1 {
			away, lonely = tr.away(k, time), tr.lonely(k)
		}
		n, ok = impl.NearestOthers(lap, list, k, time)
		wantInt(t, "NearestOthers", n, ok, away)
		n, ok = impl.LonelyTime(lap, list, k)
		wantInt(t, "LonelyTime", n, ok, lonely)
	}
	text, ok := impl.RunnersText(list)
	again, parsed := impl.ParseRunners(text)
	if !ok || !parsed || !slices.Equal(again, list) {
		t.Errorf("ParseRunners %q: got %v, %v, not %v", text, again, parsed, list)
	}
}

// order takes the farthest runner out again and again.
func (tr track) order(time int) []int {
	order := []int{}
	for range tr.list {
		next := -1
		for k, far := range tr.far[time] {
			if !slices.Contains(order, k) && (next < 0 || far > tr.far[time][next]) {
				next = k
			}
		}
		order = append(order, next)
	}
	return order
}

func (tr track) lonely(k int) int {
	lonely := 0
	for time := range tr.places {
		if tr.away(k, time) > tr.away(k, lonely) {
			lonely = time
		}
	}
	return lonely
}

// winnersOf lets all run until one of them has the laps behind.
func winnersOf(lap int, list []impl.Runner, laps int) []int {
	winners, way := []int{}, make([]int, len(list))
	for len(winners) == 0 {
		for k, r := range list {
			way[k] += r.Speed
			if way[k] >= laps*lap {
				winners = append(winners, k)
			}
		}
	}
	return winners
}

// TestRunnersOvertakeAsTheirLeadTells adds the overtakings up, time by time.
func TestRunnersOvertakeAsTheirLeadTells(t *testing.T) {
	d := drawer{z: 8}
	for range 200 {
		lap := d.draw(2, 40)
		r, s := runner(d.draw(0, lap-1), d.draw(2, 100)), runner(d.draw(0, lap-1), 1)
		s.Speed = d.draw(1, r.Speed-1)
		// The times between two whole ones are looked at in steps in which a place less is between them.
		way, count := s.Start-r.Start, 0
		if way < 0 {
			way += lap
		}
		for time := 1; time <= 60; time++ {
			for range r.Speed - s.Speed {
				if way == 0 {
					count++
					way = lap
				}
				way--
			}
			n, ok := impl.CountOvertakings(lap, r, s, time)
			wantInt(t, "CountOvertakings", n, ok, count)
		}
	}
}
