package impl

import (
	"strconv"
	"strings"
)

const MaxUp = 1000
const MaxWall = 1000000
const MaxSlips = 12

// maxListedDays bounds the days of a list of heights.
const maxListedDays = 1000

type Snail struct {
	Up   int
	Down int
}

// IsSnail reports whether s, whose numbers may be any, is a snail.
func IsSnail(s Snail) bool {
	return isWithin(s.Up, 1, MaxUp) && isWithin(s.Down, 0, MaxUp)
}

// CanClimb reports whether a snail ever comes to the top of a wall.
func CanClimb(s Snail, wall int) (bool, bool) {
	if !IsSnail(s) || !isWall(wall) {
		return false, false
	}
	_, comes := firstDayAt(s, wall)
	return comes, true
}

// DaysToTop returns the day on which it does. It fails if it never does.
func DaysToTop(s Snail, wall int) (int, bool) {
	if !IsSnail(s) || !isWall(wall) {
		return 0, false
	}
	return firstDayAt(s, wall)
}

// EveningHeight returns how high it is at the end of a day.
func EveningHeight(s Snail, wall int, day int) (int, bool) {
	if !IsSnail(s) || !isWall(wall) || !isDay(day) {
		return 0, false
	}
	return eveningBelow(s, wall, day), true
}

// MorningHeight returns how high it is behind the night before a day: 0 for the day 1.
func MorningHeight(s Snail, wall int, day int) (int, bool) {
	if !IsSnail(s) || !isWall(wall) || !isDay(day) {
		return 0, false
	}
	if day == 1 {
		return 0, true
	}
	return morningAfter(eveningBelow(s, wall, day-1), s.Down, wall), true
}

// GreatestWall returns the height of the greatest wall, however great that is, on the top of which it is at the end of a day, if not before: how far it came at most.
func GreatestWall(s Snail, days int) (int, bool) {
	if !IsSnail(s) || !isDay(days) {
		return 0, false
	}
	return farthest(s, days), true
}

// DayOfHeight returns the first day at the end of which it is at least so high, in 0 up to the wall. It fails if it never is.
func DayOfHeight(s Snail, wall int, height int) (int, bool) {
	if !IsSnail(s) || !isWall(wall) || !isWithin(height, 0, wall) {
		return 0, false
	}
	return firstDayAt(s, height)
}

// TimesPassed returns how often it comes to a height, in 1..wall, or past it, on its way up: once a day at most. It fails if that is without end.
func TimesPassed(s Snail, wall int, height int) (int, bool) {
	if !IsSnail(s) || !isWall(wall) || !isWithin(height, 1, wall) {
		return 0, false
	}
	first, comes := firstDayAt(s, height)
	if !comes {
		return 0, true
	}
	last, ends := firstDayAt(s, wall)
	if !ends {
		return 0, false
	}
	// Once it is as high in the morning already, it comes to the height no more.
	if gain := dailyGain(s); gain > 0 {
		last = min(last, (height-1)/gain+1)
	}
	return last - first + 1, true
}

// SlowestUp returns the least Up, at most MaxUp, with which a snail with a Down, 0..MaxUp, is at the top of a wall by the end of a day. It fails if there is none.
func SlowestUp(wall int, days int, down int) (int, bool) {
	if !isWall(wall) || !isDay(days) || !isWithin(down, 0, MaxUp) {
		return 0, false
	}
	for up := 1; up <= MaxUp; up++ {
		if farthest(Snail{Up: up, Down: down}, days) >= wall {
			return up, true
		}
	}
	return 0, false
}

// MostDown returns the greatest Down, at most MaxUp, with which a snail with an Up is at the top of a wall by the end of a day. It fails if there is none.
func MostDown(wall int, days int, up int) (int, bool) {
	if !isWall(wall) || !isDay(days) || !isWithin(up, 1, MaxUp) {
		return 0, false
	}
	for down := MaxUp; down >= 0; down-- {
		if farthest(Snail{Up: up, Down: down}, days) >= wall {
			return down, true
		}
	}
	return 0, false
}

// WhoWins returns 1 if the first snail is at the top on an earlier day than the second one, 2 if the second one is, and 0 if both are on the same day. A snail that never is comes behind each one that is. It fails if both never are.
func WhoWins(s Snail, t Snail, wall int) (int, bool) {
	if !IsSnail(s) || !IsSnail(t) || !isWall(wall) {
		return 0, false
	}
	one, oneComes := firstDayAt(s, wall)
	two, twoComes := firstDayAt(t, wall)
	switch {
	case !oneComes && !twoComes:
		return 0, false
	case !twoComes || oneComes && one < two:
		return 1, true
	case !oneComes || two < one:
		return 2, true
	}
	return 0, true
}

// LeadOf returns how much higher the first one is than the second one at the end of a day: it may be less than 0.
func LeadOf(s Snail, t Snail, wall int, day int) (int, bool) {
	if !IsSnail(s) || !IsSnail(t) || !isWall(wall) || !isDay(day) {
		return 0, false
	}
	return leadBelow(s, t, wall, day), true
}

// LeadChanges returns on how many evenings, until the first of both is at the top, that evening with them, another one of both is higher than on the last evening on which one was higher: 0 if it is always the same one. It fails if no snail ever comes to the top.
func LeadChanges(s Snail, t Snail, wall int) (int, bool) {
	if !IsSnail(s) || !IsSnail(t) || !isWall(wall) {
		return 0, false
	}
	end, comes := firstAtTop(s, t, wall)
	if !comes {
		return 0, false
	}
	// The lead grows or shrinks by as much each day until then, so it changes
	// once at most, and its first and last signs tell whether it does.
	first, last := leadBelow(s, t, wall, 1), leadBelow(s, t, wall, end)
	if last == 0 && end > 1 {
		// Both came to the top together, so the evening before was the last with a lead.
		last = leadBelow(s, t, wall, end-1)
	}
	if first < 0 && last > 0 || first > 0 && last < 0 {
		return 1, true
	}
	return 0, true
}

// DaysWithSlips returns the day on which a snail with an Up and slips comes to the top. It fails if it never does.
func DaysWithSlips(up int, slips []int, wall int) (int, bool) {
	if !isClimb(up, slips) || !isWall(wall) {
		return 0, false
	}
	top, day, height := 0, 0, 0
	// A height from which a round began before leads to the same round again, for ever.
	begun := map[int]bool{}
search:
	for !begun[height] {
		begun[height] = true
		r := roundFrom(height, up, slips)
		for k := range slips {
			if r.evenings[k] >= wall {
				top = day + k + 1
				break search
			}
		}
		day += len(slips)
		// Only the first round may gain more than those behind it, by the foot of
		// the wall; the others gain as much each, so those too low are left out.
		if gain := r.morning - height; gain > 0 && day > len(slips) {
			skipped := (wall - 1 - r.highest) / gain
			day += skipped * len(slips)
			r.morning += skipped * gain
		}
		height = r.morning
	}
	return top, top > 0
}

// HeightsWithSlips returns how high it is at the end of each of so many days, at most 1000.
func HeightsWithSlips(up int, slips []int, wall int, days int) ([]int, bool) {
	if !isClimb(up, slips) || !isWall(wall) || !isWithin(days, 1, maxListedDays) {
		return nil, false
	}
	heights := make([]int, days)
	morning := 0
	for k := range heights {
		heights[k] = min(wall, morning+up)
		morning = morningAfter(heights[k], slips[k%len(slips)], wall)
	}
	return heights, true
}

// GreatestWithSlips returns how far it comes at most in so many days, if there is no top.
func GreatestWithSlips(up int, slips []int, days int) (int, bool) {
	if !isClimb(up, slips) || !isDay(days) {
		return 0, false
	}
	count := len(slips)
	if days < 2*count {
		return highestFrom(0, up, slips, days), true
	}
	first := roundFrom(0, up, slips)
	second := roundFrom(first.morning, up, slips)
	// No round behind the first one is lower than the one before, and they gain
	// as much each, so the last whole one and the days behind it are enough.
	skipped := days/count - 2
	height := first.morning + skipped*(second.morning-first.morning)
	return highestFrom(height, up, slips, count+days%count), true
}

// SnailText returns Up, - and Down.
func SnailText(s Snail) (string, bool) {
	if !IsSnail(s) {
		return "", false
	}
	return strconv.Itoa(s.Up) + "-" + strconv.Itoa(s.Down), true
}

// ParseSnail returns the snail with a SnailText. It fails if there is none.
func ParseSnail(t string) (Snail, bool) {
	return parseOne(t, parseSnail, SnailText)
}

func parseSnail(text string) (Snail, bool) {
	up, down, ok := twoNumbers(text, "-")
	return Snail{Up: up, Down: down}, ok
}

// slipRound is what a snail does without a top while each of its slips comes once.
type slipRound struct {
	evenings [MaxSlips]int
	highest  int
	morning  int
}

func roundFrom(height int, up int, slips []int) slipRound {
	r := slipRound{morning: height}
	for k, slip := range slips {
		r.evenings[k] = r.morning + up
		r.highest = max(r.highest, r.evenings[k])
		r.morning = max(0, r.evenings[k]-slip)
	}
	return r
}

func highestFrom(height int, up int, slips []int, days int) int {
	highest := 0
	for k := range days {
		highest = max(highest, height+up)
		height = max(0, height+up-slips[k%len(slips)])
	}
	return highest
}

// twoNumbers takes a text apart at the first separator; it takes all numbers that Atoi takes.
func twoNumbers(text string, separator string) (int, int, bool) {
	left, right, _ := strings.Cut(text, separator)
	one, oneError := strconv.Atoi(left)
	two, twoError := strconv.Atoi(right)
	return one, two, oneError == nil && twoError == nil
}

// parseOne returns what has a text; parse may take more texts than there are.
func parseOne[T any](text string, parse func(string) (T, bool), textOf func(T) (string, bool)) (T, bool) {
	one, ok := parse(text)
	if !ok || !isTextOf(text, one, textOf) {
		var zero T
		return zero, false
	}
	return one, true
}

// isTextOf reports whether a text is that of what it was parsed to: Atoi takes signs and superfluous zeros, which no text of a kind has.
func isTextOf[T any](text string, parsed T, textOf func(T) (string, bool)) bool {
	again, ok := textOf(parsed)
	return ok && again == text
}

func isWithin(n int, least int, most int) bool {
	return least <= n && n <= most
}

// areAll reports whether a list holds 1 up to most values, all of one kind.
func areAll[T any](list []T, most int, isOne func(T) bool) bool {
	if !isWithin(len(list), 1, most) {
		return false
	}
	for _, one := range list {
		if !isOne(one) {
			return false
		}
	}
	return true
}

func isWall(wall int) bool { return isWithin(wall, 1, MaxWall) }

func isDay(day int) bool { return isWithin(day, 1, MaxWall) }

func isClimb(up int, slips []int) bool {
	return isWithin(up, 1, MaxUp) && areAll(slips, MaxSlips, func(slip int) bool {
		return isWithin(slip, 0, MaxUp)
	})
}

// dailyGain is never less than 0: a snail that slips as much as it climbs is at the foot each morning.
func dailyGain(s Snail) int {
	return max(0, s.Up-s.Down)
}

// farthest is the height at the end of a day if there is no top: no evening is lower than the one before.
func farthest(s Snail, day int) int {
	return s.Up + (day-1)*dailyGain(s)
}

func firstDayAt(s Snail, height int) (int, bool) {
	if height <= s.Up {
		return 1, true
	}
	gain := dailyGain(s)
	if gain == 0 {
		return 0, false
	}
	return 1 + (height-s.Up+gain-1)/gain, true
}

func firstAtTop(s Snail, t Snail, wall int) (int, bool) {
	one, oneComes := firstDayAt(s, wall)
	two, twoComes := firstDayAt(t, wall)
	switch {
	case oneComes && twoComes:
		return min(one, two), true
	case oneComes:
		return one, true
	}
	return two, twoComes
}

func eveningBelow(s Snail, wall int, day int) int {
	return min(wall, farthest(s, day))
}

func leadBelow(s Snail, t Snail, wall int, day int) int {
	return eveningBelow(s, wall, day) - eveningBelow(t, wall, day)
}

// morningAfter keeps a snail that is at the top there: it slips no more.
func morningAfter(evening int, slip int, wall int) int {
	if evening == wall {
		return wall
	}
	return max(0, evening-slip)
}
