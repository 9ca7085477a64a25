package tests

import (
	"math"
	"slices"
	"strings"
	"testing"

	"loop.example/g01335/impl"
)

func snail(up int, down int) impl.Snail {
	return impl.Snail{Up: up, Down: down}
}

// wantInt holds the two results of a call against a number, or against a failure if want is told as fails.
func wantInt(t *testing.T, what string, got int, ok bool, want int) {
	t.Helper()
	if want == fails {
		if ok || got != 0 {
			t.Errorf("%s: got %d, %v, and not a failure", what, got, ok)
		}
		return
	}
	if !ok || got != want {
		t.Errorf("%s: got %d, %v, not %d", what, got, ok, want)
	}
}

const fails = math.MinInt

func wantNumbers(t *testing.T, what string, got []int, ok bool, want []int) {
	t.Helper()
	if ok != (want != nil) || !slices.Equal(got, want) {
		t.Errorf("%s: got %v, %v, not %v", what, got, ok, want)
	}
}

func TestIsSnail(t *testing.T) {
	for _, s := range []impl.Snail{snail(1, 0), snail(1, 1000), snail(1000, 0), snail(1000, 1000), snail(3, 2)} {
		if !impl.IsSnail(s) {
			t.Errorf("%v is a snail", s)
		}
	}
	for _, s := range []impl.Snail{{}, snail(0, 1), snail(-1, 0), snail(1001, 0), snail(1, -1), snail(1, 1001),
		snail(math.MaxInt, 0), snail(math.MinInt, 0), snail(1, math.MaxInt), snail(1, math.MinInt)} {
		if impl.IsSnail(s) {
			t.Errorf("%v is no snail", s)
		}
	}
}

func TestCanClimb(t *testing.T) {
	cases := []struct {
		s       impl.Snail
		wall    int
		can, ok bool
	}{
		{snail(3, 2), 10, true, true},
		{snail(3, 3), 10, false, true},
		{snail(3, 4), 10, false, true},
		{snail(3, 1000), 3, true, true},
		{snail(3, 3), 4, false, true},
		{snail(1, 0), impl.MaxWall, true, true},
		{snail(1, 1), 1, true, true},
		{snail(3, 2), 0, false, false},
		{snail(3, 2), impl.MaxWall + 1, false, false},
		{snail(0, 0), 10, false, false},
	}
	for _, c := range cases {
		if can, ok := impl.CanClimb(c.s, c.wall); can != c.can || ok != c.ok {
			t.Errorf("CanClimb %v %d: got %v, %v", c.s, c.wall, can, ok)
		}
	}
}

func TestDaysToTop(t *testing.T) {
	cases := []struct {
		s          impl.Snail
		wall, want int
	}{
		{snail(3, 2), 10, 8},
		{snail(3, 2), 3, 1},
		{snail(3, 2), 4, 2},
		{snail(5, 0), 10, 2},
		{snail(5, 0), 11, 3},
		{snail(4, 4), 4, 1},
		{snail(4, 4), 5, fails},
		{snail(4, 9), 5, fails},
		{snail(1, 0), impl.MaxWall, impl.MaxWall},
		{snail(1000, 999), impl.MaxWall, impl.MaxWall - 999},
		{snail(1000, 0), impl.MaxWall, 1000},
		{snail(3, 2), 0, fails},
		{snail(3, 2), -1, fails},
		{snail(3, 2), impl.MaxWall + 1, fails},
		{snail(3, -1), 10, fails},
		{snail(1001, 2), 10, fails},
	}
	for _, c := range cases {
		n, ok := impl.DaysToTop(c.s, c.wall)
		wantInt(t, "DaysToTop", n, ok, c.want)
	}
}

func TestHeightsOfDays(t *testing.T) {
	cases := []struct {
		s                           impl.Snail
		wall, day, evening, morning int
	}{
		{snail(3, 2), 10, 1, 3, 0},
		{snail(3, 2), 10, 2, 4, 1},
		{snail(3, 2), 10, 8, 10, 7},
		{snail(3, 2), 10, 9, 10, 10},
		{snail(3, 2), 10, impl.MaxWall, 10, 10},
		{snail(3, 0), 10, 4, 10, 9},
		{snail(3, 5), 10, 7, 3, 0},
		{snail(1000, 0), impl.MaxWall, impl.MaxWall, impl.MaxWall, impl.MaxWall},
		{snail(1, 0), impl.MaxWall, impl.MaxWall, impl.MaxWall, impl.MaxWall - 1},
		{snail(3, 2), 10, 0, fails, fails},
		{snail(3, 2), 10, impl.MaxWall + 1, fails, fails},
		{snail(3, 2), 0, 1, fails, fails},
		{snail(3, 2), impl.MaxWall + 1, 1, fails, fails},
		{snail(3, 1001), 10, 1, fails, fails},
	}
	for _, c := range cases {
		n, ok := impl.EveningHeight(c.s, c.wall, c.day)
		wantInt(t, "EveningHeight", n, ok, c.evening)
		n, ok = impl.MorningHeight(c.s, c.wall, c.day)
		wantInt(t, "MorningHeight", n, ok, c.morning)
	}
}

func TestGreatestWall(t *testing.T) {
	cases := []struct {
		s          impl.Snail
		days, want int
	}{
		{snail(3, 2), 8, 10},
		{snail(3, 2), 1, 3},
		{snail(3, 3), 8, 3},
		{snail(3, 9), impl.MaxWall, 3},
		{snail(1000, 0), impl.MaxWall, 1000 * impl.MaxWall},
		{snail(3, 2), 0, fails},
		{snail(3, 2), impl.MaxWall + 1, fails},
		{snail(0, 0), 1, fails},
	}
	for _, c := range cases {
		n, ok := impl.GreatestWall(c.s, c.days)
		wantInt(t, "GreatestWall", n, ok, c.want)
	}
}

func TestDayOfHeight(t *testing.T) {
	cases := []struct {
		s                  impl.Snail
		wall, height, want int
	}{
		{snail(3, 2), 10, 0, 1},
		{snail(3, 2), 10, 3, 1},
		{snail(3, 2), 10, 4, 2},
		{snail(3, 2), 10, 10, 8},
		{snail(3, 3), 10, 3, 1},
		{snail(3, 3), 10, 4, fails},
		{snail(30, 30), 10, 10, 1},
		{snail(3, 2), 10, 11, fails},
		{snail(3, 2), 10, -1, fails},
		{snail(3, 2), 0, 0, fails},
		{snail(3, 2), impl.MaxWall + 1, 0, fails},
		{snail(0, 2), 10, 0, fails},
	}
	for _, c := range cases {
		n, ok := impl.DayOfHeight(c.s, c.wall, c.height)
		wantInt(t, "DayOfHeight", n, ok, c.want)
	}
}

func TestTimesPassed(t *testing.T) {
	cases := []struct {
		s                  impl.Snail
		wall, height, want int
	}{
		{snail(3, 2), 10, 3, 3},
		{snail(3, 2), 10, 1, 1},
		{snail(3, 2), 10, 10, 1},
		{snail(3, 2), 10, 9, 2},
		{snail(3, 0), 10, 3, 1},
		{snail(3, 3), 10, 3, fails},
		{snail(3, 3), 10, 4, 0},
		{snail(3, 9), 3, 3, 1},
		{snail(1000, 999), impl.MaxWall, 1000, 1000},
		{snail(3, 2), 10, 0, fails},
		{snail(3, 2), 10, 11, fails},
		{snail(3, 2), 0, 1, fails},
		{snail(3, 2), impl.MaxWall + 1, 1, fails},
		{snail(3, -2), 10, 3, fails},
	}
	for _, c := range cases {
		n, ok := impl.TimesPassed(c.s, c.wall, c.height)
		wantInt(t, "TimesPassed", n, ok, c.want)
	}
}

func TestSlowestUp(t *testing.T) {
	cases := []struct{ wall, days, down, want int }{
		{10, 8, 2, 3},
		{10, 7, 2, 4},
		{10, 1, 1000, 10},
		{1000, 1, 0, 1000},
		{1001, 1, 0, fails},
		{1001, impl.MaxWall, 1000, fails},
		{impl.MaxWall, impl.MaxWall, 0, 1},
		{impl.MaxWall, 1000, 0, 1000},
		{impl.MaxWall, 999, 0, fails},
		{0, 8, 2, fails},
		{impl.MaxWall + 1, 8, 2, fails},
		{10, 0, 2, fails},
		{10, impl.MaxWall + 1, 2, fails},
		{10, 8, -1, fails},
		{10, 8, 1001, fails},
	}
	for _, c := range cases {
		n, ok := impl.SlowestUp(c.wall, c.days, c.down)
		wantInt(t, "SlowestUp", n, ok, c.want)
	}
}

func TestMostDown(t *testing.T) {
	cases := []struct{ wall, days, up, want int }{
		{10, 8, 3, 2},
		{10, 7, 3, 1},
		{10, 4, 3, 0},
		{10, 3, 3, fails},
		{10, 1, 10, 1000},
		{1000, 1, 1000, 1000},
		{1001, impl.MaxWall, 1000, 999},
		{impl.MaxWall, 1000, 1000, 0},
		{impl.MaxWall, 999, 1000, fails},
		{0, 8, 3, fails},
		{impl.MaxWall + 1, 8, 3, fails},
		{10, 0, 3, fails},
		{10, impl.MaxWall + 1, 3, fails},
		{10, 8, 0, fails},
		{10, 8, 1001, fails},
	}
	for _, c := range cases {
		n, ok := impl.MostDown(c.wall, c.days, c.up)
		wantInt(t, "MostDown", n, ok, c.want)
	}
}

func TestTwoSnails(t *testing.T) {
	cases := []struct {
		s, t           impl.Snail
		wall           int
		winner, change int
	}{
		{snail(3, 2), snail(4, 4), 10, 1, 1},
		{snail(3, 2), snail(4, 4), 4, 2, 0},
		{snail(4, 4), snail(3, 2), 10, 2, 1},
		{snail(3, 2), snail(3, 2), 10, 0, 0},
		{snail(5, 0), snail(6, 1), 10, 0, 0},
		{snail(4, 4), snail(5, 6), 10, fails, fails},
		{snail(4, 2), snail(5, 4), 100, 1, 1},
		{snail(4, 2), snail(5, 4), 8, 1, 1},
		// Both are at one height on the evening before the last, and at the top on the last one.
		{snail(4, 2), snail(5, 4), 7, 0, 0},
		// Their lead changes on the evening before that on which both are at the top.
		{snail(5, 0), snail(6, 2), 17, 0, 1},
		{snail(6, 2), snail(5, 0), 17, 0, 1},
		{snail(5, 0), snail(7, 3), 11, 2, 0},
		{snail(0, 0), snail(4, 2), 10, fails, fails},
		{snail(4, 2), snail(0, 0), 10, fails, fails},
		{snail(4, 2), snail(4, 2), 0, fails, fails},
		{snail(4, 2), snail(4, 2), impl.MaxWall + 1, fails, fails},
	}
	for _, c := range cases {
		n, ok := impl.WhoWins(c.s, c.t, c.wall)
		wantInt(t, "WhoWins", n, ok, c.winner)
		n, ok = impl.LeadChanges(c.s, c.t, c.wall)
		wantInt(t, "LeadChanges", n, ok, c.change)
	}
}

func TestLeadOf(t *testing.T) {
	cases := []struct {
		s, t            impl.Snail
		wall, day, want int
	}{
		{snail(3, 2), snail(4, 4), 10, 1, -1},
		{snail(3, 2), snail(4, 4), 10, 2, 0},
		{snail(3, 2), snail(4, 4), 10, 8, 6},
		{snail(3, 2), snail(4, 4), 10, impl.MaxWall, 6},
		{snail(1, 1), snail(1000, 0), impl.MaxWall, impl.MaxWall, 1 - impl.MaxWall},
		{snail(3, 2), snail(4, 4), 10, 0, fails},
		{snail(3, 2), snail(4, 4), 10, impl.MaxWall + 1, fails},
		{snail(3, 2), snail(4, 4), 0, 1, fails},
		{snail(3, 2), snail(4, 4), impl.MaxWall + 1, 1, fails},
		{snail(0, 2), snail(4, 4), 10, 1, fails},
		{snail(3, 2), snail(4, 1001), 10, 1, fails},
	}
	for _, c := range cases {
		n, ok := impl.LeadOf(c.s, c.t, c.wall, c.day)
		wantInt(t, "LeadOf", n, ok, c.want)
	}
}

// TestSnailsAgainstWalks holds every answer on small snails and walls against snails moved day by day.
func TestSnailsAgainstWalks(t *testing.T) {
	const days = 40
	for up := 1; up <= 7; up++ {
		for down := 0; down <= 8; down++ {
			for wall := 1; wall <= 16; wall++ {
				checkWalk(t, snail(up, down), wall, days)
			}
		}
	}
}

func checkWalk(t *testing.T, s impl.Snail, wall int, days int) {
	t.Helper()
	w := walkSnail(s, wall, days)
	n, ok := impl.DaysToTop(s, wall)
	wantInt(t, "DaysToTop", n, ok, orFails(w.top))
	if can, ok := impl.CanClimb(s, wall); !ok || can != (w.top > 0) {
		t.Errorf("CanClimb %v %d: got %v, %v", s, wall, can, ok)
	}
	for day := 1; day <= days; day++ {
		n, ok = impl.EveningHeight(s, wall, day)
		wantInt(t, "EveningHeight", n, ok, w.evenings[day-1])
		n, ok = impl.MorningHeight(s, wall, day)
		wantInt(t, "MorningHeight", n, ok, w.mornings[day-1])
	}
	n, ok = impl.DayOfHeight(s, wall, 0)
	wantInt(t, "DayOfHeight", n, ok, 1)
	for height := 1; height <= wall; height++ {
		n, ok = impl.DayOfHeight(s, wall, height)
		wantInt(t, "DayOfHeight", n, ok, orFails(w.dayOf(height)))
		want := w.passed(height)
		if w.top == 0 && want > 0 {
			want = fails
		}
		n, ok = impl.TimesPassed(s, wall, height)
		wantInt(t, "TimesPassed", n, ok, want)
	}
}

// orFails tells a failure for a day that never comes.
func orFails(day int) int {
	if day == 0 {
		return fails
	}
	return day
}

func TestGreatestWallsAgainstWalks(t *testing.T) {
	for up := 1; up <= 7; up++ {
		for down := 0; down <= 8; down++ {
			for days := 1; days <= 12; days++ {
				n, ok := impl.GreatestWall(snail(up, down), days)
				wantInt(t, "GreatestWall", n, ok, walkSnail(snail(up, down), noTop, days).highest())
			}
		}
	}
}

func TestSlowestAndMostAgainstWalks(t *testing.T) {
	for wall := 1; wall <= 15; wall++ {
		for days := 1; days <= 15; days++ {
			for fixed := 0; fixed <= 16; fixed++ {
				up := 1
				for walkSnail(snail(up, fixed), wall, days).top == 0 {
					up++
				}
				n, ok := impl.SlowestUp(wall, days, fixed)
				wantInt(t, "SlowestUp", n, ok, up)
				down := impl.MaxUp
				for down >= 0 && walkSnail(snail(fixed, down), wall, days).top == 0 {
					down--
				}
				if fixed == 0 || down < 0 {
					down = fails
				}
				n, ok = impl.MostDown(wall, days, fixed)
				wantInt(t, "MostDown", n, ok, down)
			}
		}
	}
}

func TestTwoSnailsAgainstWalks(t *testing.T) {
	const days = 20
	for wall := 1; wall <= 14; wall++ {
		for code := range 6 * 7 * 6 * 7 {
			s, u := snail(code%6+1, code/6%7), snail(code/42%6+1, code/252)
			v, w := walkSnail(s, wall, days), walkSnail(u, wall, days)
			n, ok := impl.WhoWins(s, u, wall)
			wantInt(t, "WhoWins", n, ok, winnerOf(v, w))
			want := changesOfLead(v, w)
			if want < 0 {
				want = fails
			}
			n, ok = impl.LeadChanges(s, u, wall)
			wantInt(t, "LeadChanges", n, ok, want)
			for day := 1; day <= days; day += 3 {
				n, ok = impl.LeadOf(s, u, wall, day)
				wantInt(t, "LeadOf", n, ok, v.evenings[day-1]-w.evenings[day-1])
			}
		}
	}
}

func winnerOf(v walk, w walk) int {
	for k := range v.evenings {
		one, two := v.evenings[k] == v.wall, w.evenings[k] == w.wall
		switch {
		case one && two:
			return 0
		case one:
			return 1
		case two:
			return 2
		}
	}
	return fails
}

func TestSnailText(t *testing.T) {
	cases := []struct {
		s    impl.Snail
		text string
	}{
		{snail(3, 2), "3-2"}, {snail(1, 0), "1-0"}, {snail(1000, 1000), "1000-1000"}, {snail(12, 345), "12-345"},
	}
	for _, c := range cases {
		if text, ok := impl.SnailText(c.s); !ok || text != c.text {
			t.Errorf("SnailText %v: got %q, %v", c.s, text, ok)
		}
		if s, ok := impl.ParseSnail(c.text); !ok || s != c.s {
			t.Errorf("ParseSnail %q: got %v, %v", c.text, s, ok)
		}
	}
	for _, s := range []impl.Snail{{}, snail(1001, 0), snail(3, -2), snail(3, 1001)} {
		if text, ok := impl.SnailText(s); ok || text != "" {
			t.Errorf("SnailText %v: got %q, %v", s, text, ok)
		}
	}
}

func TestParseSnailOfNoText(t *testing.T) {
	for _, text := range []string{"", "-", "3", "3-", "-2", "3-2-1", "3--2", "+3-2", "3-+2", "03-2", "3-02", "3-00", "0-2",
		"1001-0", "1-1001", " 3-2", "3-2 ", "3 - 2", "3-2\n", "3-2\x00", "3/2", "a-b", "3-2,4-4", "1_0-2", "0x3-2", "3.0-2",
		"\xff-2", "３-2", "99999999999999999999-2", "3-18446744073709551618", strings.Repeat("9", 10000)} {
		if s, ok := impl.ParseSnail(text); ok || s != (impl.Snail{}) {
			t.Errorf("ParseSnail %q: got %v, %v", text, s, ok)
		}
	}
}

func TestDaysWithSlips(t *testing.T) {
	twelve := []int{1, 1, 1, 1, 1, 1, 1, 1, 1, 1, 1, 0}
	cases := []struct {
		up         int
		slips      []int
		wall, want int
	}{
		{3, []int{1, 3}, 7, 4},
		{3, []int{1, 3}, 5, 2},
		{3, []int{1, 3}, 3, 1},
		{3, []int{2}, 10, 8},
		{3, []int{3}, 4, fails},
		{3, []int{1, 1000}, 5, 2},
		{3, []int{1, 1000}, 6, fails},
		// The foot of the wall cuts the first slip off, so that the later rounds come higher than the first one.
		{3, []int{9, 2}, 4, 3},
		{5, []int{0, 20, 0}, 10, 2},
		{5, []int{0, 20, 0}, 15, 5},
		{5, []int{0, 20, 0}, 16, fails},
		{1, []int{0}, impl.MaxWall, impl.MaxWall},
		{1, twelve, impl.MaxWall, 12*(impl.MaxWall-1) + 1},
		{1000, []int{1000}, 1000, 1},
		{1000, []int{1000}, 1001, fails},
		{3, nil, 10, fails},
		{3, []int{}, 10, fails},
		{1, make([]int, impl.MaxSlips), 12, 12},
		{1, make([]int, impl.MaxSlips+1), 12, fails},
		{3, []int{1, -1}, 1, fails},
		{3, []int{1, 1001}, 1, fails},
		{0, []int{1}, 1, fails},
		{1001, []int{1}, 1, fails},
		{3, []int{1}, 0, fails},
		{3, []int{1}, impl.MaxWall + 1, fails},
	}
	for _, c := range cases {
		n, ok := impl.DaysWithSlips(c.up, c.slips, c.wall)
		wantInt(t, "DaysWithSlips", n, ok, c.want)
	}
}

func TestHeightsWithSlips(t *testing.T) {
	cases := []struct {
		up         int
		slips      []int
		wall, days int
		want       []int
	}{
		{3, []int{1, 3}, 100, 5, []int{3, 5, 5, 7, 7}},
		{3, []int{1, 3}, 6, 6, []int{3, 5, 5, 6, 6, 6}},
		{3, []int{9, 2}, 100, 4, []int{3, 3, 4, 3}},
		{3, []int{9}, 3, 3, []int{3, 3, 3}},
		{1, []int{0}, 1, 1, []int{1}},
		{3, []int{1, 3}, 100, 0, nil},
		{3, []int{1, 3}, 100, -1, nil},
		{3, []int{1, 3}, 100, 1001, nil},
		{3, nil, 100, 5, nil},
		{3, make([]int, impl.MaxSlips+1), 100, 5, nil},
		{3, []int{1, -3}, 100, 5, nil},
		{3, []int{1001}, 100, 5, nil},
		{0, []int{1, 3}, 100, 5, nil},
		{1001, []int{1, 3}, 100, 5, nil},
		{3, []int{1, 3}, 0, 5, nil},
		{3, []int{1, 3}, impl.MaxWall + 1, 5, nil},
	}
	for _, c := range cases {
		heights, ok := impl.HeightsWithSlips(c.up, c.slips, c.wall, c.days)
		wantNumbers(t, "HeightsWithSlips", heights, ok, c.want)
	}
	if heights, ok := impl.HeightsWithSlips(1000, []int{1000}, impl.MaxWall, 1000); !ok || len(heights) != 1000 {
		t.Errorf("HeightsWithSlips of 1000 days: got %d heights, %v", len(heights), ok)
	}
}

func TestGreatestWithSlips(t *testing.T) {
	cases := []struct {
		up         int
		slips      []int
		days, want int
	}{
		{3, []int{1, 3}, 1, 3},
		{3, []int{1, 3}, 2, 5},
		{3, []int{1, 3}, 5, 7},
		{3, []int{9, 2}, 4, 4},
		{3, []int{1, 1000}, impl.MaxWall, 5},
		{1000, []int{0}, impl.MaxWall, 1000 * impl.MaxWall},
		{1000, make([]int, impl.MaxSlips), impl.MaxWall, 1000 * impl.MaxWall},
		{3, []int{1, 3}, 0, fails},
		{3, []int{1, 3}, impl.MaxWall + 1, fails},
		{0, []int{1}, 1, fails},
		{1001, []int{1}, 1, fails},
		{3, nil, 1, fails},
		{3, make([]int, impl.MaxSlips+1), 1, fails},
		{3, []int{-1}, 1, fails},
		{3, []int{1001}, 1, fails},
	}
	for _, c := range cases {
		n, ok := impl.GreatestWithSlips(c.up, c.slips, c.days)
		wantInt(t, "GreatestWithSlips", n, ok, c.want)
	}
}

// TestSlipsAgainstWalks takes all lists of up to four slips of a few sizes.
func TestSlipsAgainstWalks(t *testing.T) {
	const days = 90
	for count := 1; count <= 4; count++ {
		for code := range power(7, count) {
			slips := make([]int, count)
			for k := range slips {
				slips[k] = code % 7
				code /= 7
			}
			for up := 1; up <= 5; up++ {
				checkSlips(t, up, slips, days)
			}
		}
	}
}

func power(base int, exponent int) int {
	n := 1
	for range exponent {
		n *= base
	}
	return n
}

func checkSlips(t *testing.T, up int, slips []int, days int) {
	t.Helper()
	free := walkDays(up, slips, noTop, days)
	for count := 1; count <= 16; count++ {
		want := slices.Max(free.evenings[:count])
		n, ok := impl.GreatestWithSlips(up, slips, count)
		wantInt(t, "GreatestWithSlips", n, ok, want)
	}
	n, ok := impl.GreatestWithSlips(up, slips, days)
	wantInt(t, "GreatestWithSlips", n, ok, free.highest())
	for wall := 1; wall <= 13; wall++ {
		w := walkDays(up, slips, wall, days)
		n, ok = impl.DaysWithSlips(up, slips, wall)
		wantInt(t, "DaysWithSlips", n, ok, orFails(w.top))
		heights, ok := impl.HeightsWithSlips(up, slips, wall, 14)
		wantNumbers(t, "HeightsWithSlips", heights, ok, w.evenings[:14])
	}
}

// TestLongSlipsAgainstWalks takes lists as long as they may be, and walls that need many rounds.
func TestLongSlipsAgainstWalks(t *testing.T) {
	z := 1
	for range 400 {
		slips := make([]int, 1+z%impl.MaxSlips)
		for k := range slips {
			z = (z*227 + 2027) % 10007
			slips[k] = z % 41
		}
		z = (z*227 + 2027) % 10007
		up := 1 + z%40
		wall := 1 + z%3000
		w := walkDays(up, slips, wall, 40000)
		n, ok := impl.DaysWithSlips(up, slips, wall)
		wantInt(t, "DaysWithSlips", n, ok, orFails(w.top))
		n, ok = impl.GreatestWithSlips(up, slips, wall)
		wantInt(t, "GreatestWithSlips", n, ok, walkDays(up, slips, noTop, wall).highest())
	}
}
