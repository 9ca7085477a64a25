package tests

import (
	"math"
	"slices"
	"testing"

	"loop.example/g01335/impl"
)

// oddNumbers are at, beside and far from the limits of chapter 1.
var oddNumbers = []int{math.MinInt, -1, 0, 1, 2, 3, 1000, 1001, 1000000, 1000001, math.MaxInt}

func isIn(n int, least int, most int) bool { return least <= n && n <= most }

func isUp(n int) bool   { return isIn(n, 1, 1000) }
func isDown(n int) bool { return isIn(n, 0, 1000) }
func isLong(n int) bool { return isIn(n, 1, 1000000) }

// wantZero holds a call to failing for invalid arguments, and to returning 0 when it fails.
func wantZero(t *testing.T, what string, valid bool, got int, ok bool) {
	t.Helper()
	if ok && !valid {
		t.Errorf("%s: succeeds with an invalid argument", what)
	}
	if !ok && got != 0 {
		t.Errorf("%s: fails, but returns %d", what, got)
	}
}

func TestSnailFunctionsTakeAllArguments(t *testing.T) {
	for _, up := range oddNumbers {
		for _, down := range oddNumbers {
			s := snail(up, down)
			if impl.IsSnail(s) != (isUp(up) && isDown(down)) {
				t.Errorf("IsSnail %v", s)
			}
			if text, ok := impl.SnailText(s); ok != impl.IsSnail(s) || ok == (text == "") {
				t.Errorf("SnailText %v: got %q, %v", s, text, ok)
			}
			for _, n := range oddNumbers {
				takeSnail(t, s, n)
			}
		}
	}
}

func takeSnail(t *testing.T, s impl.Snail, n int) {
	t.Helper()
	valid := impl.IsSnail(s) && isLong(n)
	if can, ok := impl.CanClimb(s, n); ok != valid || can && !ok {
		t.Errorf("CanClimb %v %d: got %v, %v", s, n, can, ok)
	}
	got, ok := impl.DaysToTop(s, n)
	wantZero(t, "DaysToTop", valid, got, ok)
	got, ok = impl.GreatestWall(s, n)
	wantZero(t, "GreatestWall", valid, got, ok)
	if ok != valid {
		t.Errorf("GreatestWall %v %d: got %v", s, n, ok)
	}
	for _, m := range oddNumbers {
		got, ok = impl.EveningHeight(s, n, m)
		wantZero(t, "EveningHeight", valid && isLong(m), got, ok)
		got, ok = impl.MorningHeight(s, n, m)
		wantZero(t, "MorningHeight", valid && isLong(m), got, ok)
		got, ok = impl.DayOfHeight(s, n, m)
		wantZero(t, "DayOfHeight", valid && isIn(m, 0, n), got, ok)
		got, ok = impl.TimesPassed(s, n, m)
		wantZero(t, "TimesPassed", valid && isIn(m, 1, n), got, ok)
	}
}

func TestSlowestAndMostTakeAllArguments(t *testing.T) {
	for _, wall := range oddNumbers {
		for _, days := range oddNumbers {
			for _, n := range oddNumbers {
				got, ok := impl.SlowestUp(wall, days, n)
				wantZero(t, "SlowestUp", isLong(wall) && isLong(days) && isDown(n), got, ok)
				got, ok = impl.MostDown(wall, days, n)
				wantZero(t, "MostDown", isLong(wall) && isLong(days) && isUp(n), got, ok)
			}
		}
	}
}

func TestTwoSnailsTakeAllArguments(t *testing.T) {
	for _, up := range oddNumbers {
		for _, down := range oddNumbers {
			for _, wall := range oddNumbers {
				s := snail(up, down)
				takeTwo(t, s, snail(3, 2), wall)
				takeTwo(t, snail(3, 2), s, wall)
				takeTwo(t, s, s, wall)
			}
		}
	}
}

func takeTwo(t *testing.T, s impl.Snail, u impl.Snail, wall int) {
	t.Helper()
	valid := impl.IsSnail(s) && impl.IsSnail(u) && isLong(wall)
	got, ok := impl.WhoWins(s, u, wall)
	wantZero(t, "WhoWins", valid, got, ok)
	got, ok = impl.LeadChanges(s, u, wall)
	wantZero(t, "LeadChanges", valid, got, ok)
	for _, day := range oddNumbers {
		got, ok = impl.LeadOf(s, u, wall, day)
		wantZero(t, "LeadOf", valid && isLong(day), got, ok)
		if ok != (valid && isLong(day)) {
			t.Errorf("LeadOf %v %v %d %d: got %v", s, u, wall, day, ok)
		}
	}
}

func TestSlipFunctionsTakeAllArguments(t *testing.T) {
	lists := [][]int{nil, {}, make([]int, 12), make([]int, 13), make([]int, 100000), {3, 1}}
	for _, n := range oddNumbers {
		lists = append(lists, []int{n}, []int{2, n}, []int{n, 0, 1})
	}
	for _, slips := range lists {
		for _, up := range oddNumbers {
			for _, n := range oddNumbers {
				takeSlips(t, up, slips, n)
			}
		}
	}
}

func takeSlips(t *testing.T, up int, slips []int, n int) {
	t.Helper()
	valid := isUp(up) && isIn(len(slips), 1, 12) && isLong(n)
	for _, slip := range slips {
		valid = valid && isDown(slip)
	}
	got, ok := impl.DaysWithSlips(up, slips, n)
	wantZero(t, "DaysWithSlips", valid, got, ok)
	got, ok = impl.GreatestWithSlips(up, slips, n)
	wantZero(t, "GreatestWithSlips", valid, got, ok)
	if ok != valid {
		t.Errorf("GreatestWithSlips %d %v %d: got %v", up, slips, n, ok)
	}
	for _, days := range oddNumbers {
		heights, ok := impl.HeightsWithSlips(up, slips, n, days)
		if ok != (valid && isIn(days, 1, 1000)) || ok && len(heights) != days || !ok && len(heights) > 0 {
			t.Errorf("HeightsWithSlips %d %v %d %d: got %d heights, %v", up, slips, n, days, len(heights), ok)
		}
	}
}

// TestSlipsAreNotModified looks at the spare capacity behind the slips too, which is neither read nor written.
func TestSlipsAreNotModified(t *testing.T) {
	whole := []int{1, 3, -7, 5000}
	kept := slices.Clone(whole)
	slips := whole[:2]
	impl.DaysWithSlips(3, slips, 50)
	impl.GreatestWithSlips(3, slips, 50)
	heights, ok := impl.HeightsWithSlips(3, slips, 50, 4)
	wantNumbers(t, "HeightsWithSlips", heights, ok, []int{3, 5, 5, 7})
	for k := range heights {
		heights[k] = -1
	}
	if !slices.Equal(whole, kept) {
		t.Errorf("the slips have become %v", whole)
	}
	heights, ok = impl.HeightsWithSlips(3, slips, 50, 4)
	wantNumbers(t, "HeightsWithSlips once more", heights, ok, []int{3, 5, 5, 7})
}
