package tests

import (
	"math"
	"runtime"
	"sync"
	"testing"
	"time"

	"loop.example/g01335/impl"
)

// oddPaces are at, beside and far from the limits of chapter 4.
var oddPaces = []int{math.MinInt, -1, 0, 1, 2, 6, 7, 19, 20, 21, 100, 101, 1000, 1001, math.MaxInt}

func oddChases() []impl.Chase {
	var list []impl.Chase
	for _, apart := range oddPaces {
		for _, left := range oddPaces {
			for _, right := range oddPaces {
				for _, dog := range oddPaces {
					list = append(list, chase(apart, left, right, dog))
				}
			}
		}
	}
	return list
}

func isChasing(c impl.Chase) bool {
	return isIn(c.Apart, 1, 1000) && isIn(c.Left, 0, 20) && isIn(c.Right, 0, 20) && (c.Left != 0 || c.Right != 0) &&
		c.Dog > c.Left && c.Dog > c.Right && c.Dog <= 20
}

// isBeforeMeeting reports whether a time is none later than the meeting.
func isBeforeMeeting(c impl.Chase, num int, den int) bool {
	return isChasing(c) && isIn(num, 0, 1000) && isIn(den, 1, 100) && c.Left*num+c.Right*num <= c.Apart*den
}

func TestChasesTakeAllArguments(t *testing.T) {
	for _, c := range oddChases() {
		valid := isChasing(c)
		if impl.IsChase(c) != valid {
			t.Errorf("IsChase %v: got %v", c, !valid)
		}
		takeChase(t, c, valid)
		// Those of chases that are none are all alike, so that one time that may be is enough for them.
		takeChaseTime(t, c, 0, 1)
		if !valid {
			continue
		}
		for _, num := range oddPaces {
			takeTurns(t, c, num)
			for _, den := range oddPaces {
				takeChaseTime(t, c, num, den)
			}
		}
	}
}

func takeChase(t *testing.T, c impl.Chase, valid bool) {
	t.Helper()
	num, den, ok := impl.TimeToMeet(c)
	wantOk(t, "TimeToMeet", valid, num, den, ok)
	num, den, ok = impl.DogDistance(c)
	wantOk(t, "DogDistance", valid, num, den, ok)
	num, den, nextNum, nextDen, ok := impl.DistanceOf(c)
	wantOk(t, "DistanceOf, left", valid, num, den, ok)
	wantOk(t, "DistanceOf, right", valid, nextNum, nextDen, ok)
	num, den, nextNum, nextDen, ok = impl.RatioOfTurns(c)
	wantOk(t, "RatioOfTurns, right", valid, num, den, ok)
	wantOk(t, "RatioOfTurns, left", valid, nextNum, nextDen, ok)
	if turned, ok := impl.TurnChase(c); ok != valid || (turned != impl.Chase{}) != valid {
		t.Errorf("TurnChase %v: got %v, %v", c, turned, ok)
	}
	if text, ok := impl.ChaseText(c); ok != valid || (text != "") != valid {
		t.Errorf("ChaseText %v: got %q, %v", c, text, ok)
	}
	takeTurns(t, c, 1)
}

func takeTurns(t *testing.T, c impl.Chase, turns int) {
	t.Helper()
	must := isChasing(c) && isIn(turns, 1, 6)
	rows, ok := impl.DogTurns(c, turns)
	if ok != must || must && len(rows) != turns || !must && rows != nil {
		t.Errorf("DogTurns %v %d: got %v, %v", c, turns, rows, ok)
	}
	num, den, ok := impl.ApartAfterTurn(c, turns)
	wantOk(t, "ApartAfterTurn", must, num, den, ok)
	num, den, ok = impl.RunToRight(c, turns)
	wantOk(t, "RunToRight", must, num, den, ok)
}

func takeChaseTime(t *testing.T, c impl.Chase, num int, den int) {
	t.Helper()
	valid := isBeforeMeeting(c, num, den)
	atMeeting := valid && (c.Left+c.Right)*num == c.Apart*den
	turns, ok := impl.TurnsUntil(c, num, den)
	wantSuccess(t, "TurnsUntil", ok && valid && !atMeeting, turns, ok)
	placeNum, placeDen, placed := impl.DogPlace(c, num, den)
	wantOk(t, "DogPlace", ok || atMeeting, placeNum, placeDen, placed)
	dog, ok := impl.SlowestDog(c, num, den)
	wantSuccess(t, "SlowestDog", ok && valid, dog, ok)
	if ok && !isIn(dog, 1, 20) {
		t.Errorf("SlowestDog %v %d %d: got %d", c, num, den, dog)
	}
}

func TestHaresTakeAllArguments(t *testing.T) {
	for _, dog := range oddPaces {
		for _, hare := range oddPaces {
			for _, long := range oddPaces {
				for _, short := range oddPaces {
					takeLeaps(t, dog, hare, long, short)
				}
			}
			for _, ahead := range oddPaces {
				num, den, ok := impl.CatchSpeed(ahead, dog, hare)
				wantOk(t, "CatchSpeed", isIn(ahead, 1, 1000) && isIn(dog, 1, 1000) && isIn(hare, 0, 20), num, den, ok)
			}
		}
	}
}

func takeLeaps(t *testing.T, dog int, hare int, long int, short int) {
	t.Helper()
	valid := isIn(dog, 1, 20) && isIn(hare, 1, 20) && isIn(long, 1, 20) && isIn(short, 1, 20)
	can, ok := impl.CanCatch(dog, hare, long, short)
	if ok != valid || !ok && can {
		t.Errorf("CanCatch %d %d %d %d: got %v, %v", dog, hare, long, short, can, ok)
	}
	for _, ahead := range oddPaces {
		leaps, ok := impl.CatchLeaps(ahead, dog, hare, long, short)
		wantSuccess(t, "CatchLeaps", can && isIn(ahead, 1, 1000), leaps, ok)
	}
}

// askChase asks what lets the dog run, and spoils what is returned.
func askChase(t *testing.T) {
	t.Helper()
	rows, ok := impl.DogTurns(dogChase, 2)
	wantRows(t, "DogTurns", rows, ok, [][]int{{6, 1, 36, 1}, {9, 1, 18, 1}})
	spoilRows(t, rows)
	num, den, ok := impl.ApartAfterTurn(dogChase, 2)
	wantPart(t, "ApartAfterTurn", num, den, ok, part{6, 1})
	num, den, ok = impl.RunToRight(dogChase, 3)
	wantPart(t, "RunToRight", num, den, ok, part{198, 5})
	num, den, ok = impl.DogPlace(dogChase, 7, 1)
	wantPart(t, "DogPlace", num, den, ok, part{30, 1})
	n, ok := impl.TurnsUntil(dogChase, 999, 100)
	wantInt(t, "TurnsUntil", n, ok, 6)
}

// TestDogsAtOnce asks from several goroutines at once: no call knows of another one.
func TestDogsAtOnce(t *testing.T) {
	var group sync.WaitGroup
	for range 8 {
		group.Go(func() {
			for range 100 {
				askChase(t)
			}
		})
	}
	group.Wait()
}

// TestDogsStop looks for dogs that run on when their calls have returned.
func TestDogsStop(t *testing.T) {
	before := runtime.NumGoroutine()
	for range 200 {
		askChase(t)
	}
	wantGone(t, before)
}

// wantGone holds the goroutines that there are against how many there were before.
func wantGone(t *testing.T, before int) {
	t.Helper()
	// One that has told that it is done may need a moment to be gone.
	for range 100 {
		if runtime.NumGoroutine() <= before {
			return
		}
		time.Sleep(10 * time.Millisecond)
	}
	t.Errorf("there are %d goroutines, and %d before", runtime.NumGoroutine(), before)
}
