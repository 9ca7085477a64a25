package tests

import (
	"math/big"
	"testing"

	"loop.example/g01335/impl"
)

// hunt is a chase whose dog and walkers are moved from turn to turn, as the document tells it, to hold the answers of chapter 4 against.
type hunt struct {
	c impl.Chase
	// turns begin with the time 0, at which the dog is at the left walker.
	turns []huntTurn
}

type huntTurn struct {
	time, dog, left, right, toRight *big.Rat
}

func rat(num int, den int) *big.Rat { return big.NewRat(int64(num), int64(den)) }

func plus(a *big.Rat, b *big.Rat) *big.Rat   { return new(big.Rat).Add(a, b) }
func minus(a *big.Rat, b *big.Rat) *big.Rat  { return new(big.Rat).Sub(a, b) }
func times(a *big.Rat, b *big.Rat) *big.Rat  { return new(big.Rat).Mul(a, b) }
func divide(a *big.Rat, b *big.Rat) *big.Rat { return new(big.Rat).Quo(a, b) }

func partOfRat(r *big.Rat) part {
	return part{int(r.Num().Int64()), int(r.Denom().Int64())}
}

func (now huntTurn) apart() *big.Rat { return minus(now.right, now.left) }

func newHunt(c impl.Chase, turns int) hunt {
	h := hunt{c: c, turns: []huntTurn{{time: rat(0, 1), dog: rat(0, 1), left: rat(0, 1), right: rat(c.Apart, 1), toRight: rat(0, 1)}}}
	for k := range turns {
		now := h.turns[k]
		leg := divide(minus(now.right, now.dog), rat(c.Dog+c.Right, 1))
		if k%2 == 1 {
			leg = divide(minus(now.dog, now.left), rat(c.Dog+c.Left, 1))
		}
		h.turns = append(h.turns, h.moved(k, leg))
	}
	return h
}

// moved lets the dog and the walkers go on for a time, behind so many turns, with none on the way.
func (h hunt) moved(turns int, leg *big.Rat) huntTurn {
	now, way := h.turns[turns], times(rat(h.c.Dog, 1), leg)
	then := huntTurn{time: plus(now.time, leg), left: plus(now.left, times(rat(h.c.Left, 1), leg)),
		right: minus(now.right, times(rat(h.c.Right, 1), leg))}
	if turns%2 == 0 {
		then.dog, then.toRight = plus(now.dog, way), plus(now.toRight, way)
	} else {
		then.dog, then.toRight = minus(now.dog, way), now.toRight
	}
	return then
}

func (h hunt) turnsUntil(time *big.Rat) int {
	count := 0
	for _, turn := range h.turns[1:] {
		if turn.time.Cmp(time) <= 0 {
			count++
		}
	}
	return count
}

// eachChase takes each speed of both walkers and of the dog, once.
func eachChase(each func(left int, right int, dog int)) {
	for dog := 1; dog <= 20; dog++ {
		for left := range dog {
			for right := range dog {
				if left+right > 0 {
					each(left, right, dog)
				}
			}
		}
	}
}

func TestChasesAgainstSteps(t *testing.T) {
	d := drawer{z: 9}
	eachChase(func(left int, right int, dog int) {
		for _, apart := range []int{1, 1000, d.draw(2, 999)} {
			checkTurns(t, newHunt(chase(apart, left, right, dog), 6))
		}
	})
}

func checkTurns(t *testing.T, h hunt) {
	t.Helper()
	c, rows := h.c, [][]int{}
	for k := 1; k <= 6; k++ {
		turn := h.turns[k]
		time, place := partOfRat(turn.time), partOfRat(turn.dog)
		rows = append(rows, []int{time.num, time.den, place.num, place.den})
		got, ok := impl.DogTurns(c, k)
		wantRows(t, "DogTurns", got, ok, rows)
		num, den, ok := impl.ApartAfterTurn(c, k)
		wantPart(t, "ApartAfterTurn", num, den, ok, partOfRat(turn.apart()))
		num, den, ok = impl.RunToRight(c, k)
		wantPart(t, "RunToRight", num, den, ok, partOfRat(turn.toRight))
	}
	num, den, nextNum, nextDen, ok := impl.RatioOfTurns(c)
	wantPart(t, "RatioOfTurns, right", num, den, ok, partOfRat(divide(h.turns[5].apart(), h.turns[4].apart())))
	wantPart(t, "RatioOfTurns, left", nextNum, nextDen, ok, partOfRat(divide(h.turns[6].apart(), h.turns[5].apart())))
	text, ok := impl.ChaseText(c)
	if again, parsed := impl.ParseChase(text); !ok || !parsed || again != c {
		t.Errorf("ParseChase %q: got %v, %v, not %v", text, again, parsed, c)
	}
	checkMeeting(t, c)
}

// checkMeeting holds the meeting to what is left of the way of both then, which is nothing.
func checkMeeting(t *testing.T, c impl.Chase) {
	t.Helper()
	num, den, ok := impl.TimeToMeet(c)
	if !ok || num < 1 || den < 1 {
		t.Errorf("TimeToMeet %v: got %d / %d, %v", c, num, den, ok)
		return
	}
	time := rat(num, den)
	left, right := times(rat(c.Left, 1), time), times(rat(c.Right, 1), time)
	if plus(left, right).Cmp(rat(c.Apart, 1)) != 0 {
		t.Errorf("TimeToMeet %v: got %d / %d", c, num, den)
	}
	num, den, ok = impl.DogDistance(c)
	wantPart(t, "DogDistance", num, den, ok, partOfRat(times(rat(c.Dog, 1), time)))
	leftNum, leftDen, rightNum, rightDen, ok := impl.DistanceOf(c)
	wantPart(t, "DistanceOf, left", leftNum, leftDen, ok, partOfRat(left))
	wantPart(t, "DistanceOf, right", rightNum, rightDen, ok, partOfRat(right))
	if time.Num().Int64() <= 1000 && time.Denom().Int64() <= 100 {
		num, den, ok = impl.DogPlace(c, int(time.Num().Int64()), int(time.Denom().Int64()))
		wantPart(t, "DogPlace at the meeting", num, den, ok, partOfRat(left))
	}
}

// TestTurnsAreAtBothWalkersInTurn holds what is told of a chase together: the turns are at the walkers, who are less and less apart.
func TestTurnsAreAtBothWalkersInTurn(t *testing.T) {
	eachChase(func(left int, right int, dog int) {
		c := chase(97, left, right, dog)
		rows, ok := impl.DogTurns(c, 6)
		time, place, apart := rat(0, 1), rat(0, 1), rat(c.Apart, 1)
		for k, row := range rows {
			next, at := rat(row[0], row[1]), rat(row[2], row[3])
			walkerAt := minus(rat(c.Apart, 1), times(rat(right, 1), next))
			if k%2 == 1 {
				walkerAt = times(rat(left, 1), next)
			}
			way := minus(at, place)
			ran := times(rat(dog, 1), minus(next, time))
			num, den, fine := impl.ApartAfterTurn(c, k+1)
			less := rat(num, max(den, 1))
			if !ok || !fine || at.Cmp(walkerAt) != 0 || way.Abs(way).Cmp(ran) != 0 || less.Cmp(apart) >= 0 || less.Sign() <= 0 || next.Cmp(time) <= 0 {
				t.Errorf("%v: turn %d is %v, %d / %d apart", c, k+1, row, num, den)
			}
			time, place, apart = next, at, less
		}
	})
}

func TestTimesOfChasesAgainstSteps(t *testing.T) {
	d := drawer{z: 10}
	eachChase(func(left int, right int, dog int) {
		h := newHunt(chase(d.draw(1, 1000), left, right, dog), 7)
		if d.draw(0, 1) == 0 {
			h = newHunt(chase(d.draw(1, 20), left, right, dog), 7)
		}
		for range 12 {
			checkTime(t, h, d.draw(0, 1000), d.draw(1, 100))
			den := d.draw(1, 100)
			checkTime(t, h, min(1000, d.draw(0, h.c.Apart*den/(left+right)+1)), den)
		}
		for _, turn := range h.turns {
			if time := partOfRat(turn.time); time.num <= 1000 && time.den <= 100 {
				checkTime(t, h, time.num, time.den)
			}
		}
	})
}

func checkTime(t *testing.T, h hunt, num int, den int) {
	t.Helper()
	time, meet := rat(num, den), rat(h.c.Apart, h.c.Left+h.c.Right)
	place, count, slowest := none, fails, fails
	if time.Cmp(meet) <= 0 {
		slowest = slowestDog(h.c, time)
		turns := h.turnsUntil(time)
		if time.Cmp(meet) == 0 {
			place = partOfRat(times(rat(h.c.Left, 1), time))
		} else if turns <= 6 {
			count = turns
			place = partOfRat(h.moved(turns, minus(time, h.turns[turns].time)).dog)
		}
	}
	gotNum, gotDen, ok := impl.DogPlace(h.c, num, den)
	wantPart(t, "DogPlace", gotNum, gotDen, ok, place)
	n, ok := impl.TurnsUntil(h.c, num, den)
	wantInt(t, "TurnsUntil", n, ok, count)
	n, ok = impl.SlowestDog(h.c, num, den)
	wantInt(t, "SlowestDog", n, ok, slowest)
}

// slowestDog lets one dog after another run to its first turn.
func slowestDog(c impl.Chase, time *big.Rat) int {
	for dog := range 21 {
		c.Dog = dog
		if impl.IsChase(c) && newHunt(c, 1).turns[1].time.Cmp(time) <= 0 {
			return dog
		}
	}
	return fails
}

// TestTurnedChaseIsSeenFromBehind looks at the places from the other end, where the dog comes first to the walker from whom it ran.
func TestTurnedChaseIsSeenFromBehind(t *testing.T) {
	eachChase(func(left int, right int, dog int) {
		c := chase(60, left, right, dog)
		turned, ok := impl.TurnChase(c)
		if !ok || turned != chase(60, right, left, dog) {
			t.Errorf("TurnChase %v: got %v, %v", c, turned, ok)
		}
		again, ok := impl.TurnChase(turned)
		if !ok || again != c {
			t.Errorf("TurnChase %v: got %v, %v", turned, again, ok)
		}
		num, den, nextNum, nextDen, _ := impl.RatioOfTurns(c)
		turnedNum, turnedDen, lastNum, lastDen, ok := impl.RatioOfTurns(turned)
		wantPart(t, "RatioOfTurns, turned", turnedNum, turnedDen, ok, part{nextNum, nextDen})
		wantPart(t, "RatioOfTurns, turned", lastNum, lastDen, ok, part{num, den})
	})
}

// leapsUntilCaught counts leap by leap of the dog; the hare may be within a leap then.
func leapsUntilCaught(ahead int, dog int, hare int, long int, short int) int {
	for leaps := 1; leaps <= 400000; leaps++ {
		// The dog is at leaps * short / long leaps of the hare then, and the hare at ahead + leaps * hare / dog.
		if leaps*short*dog >= (ahead*dog+leaps*hare)*long {
			return leaps
		}
	}
	return fails
}

func TestLeapsAgainstSteps(t *testing.T) {
	d := drawer{z: 11}
	for n := range 3000 {
		ahead, leaps := d.draw(1, 1000), [4]int{d.draw(1, 20), d.draw(1, 20), d.draw(1, 20), d.draw(1, 20)}
		if n%2 == 0 {
			ahead = d.draw(1, 5)
		}
		want := fails
		if can, ok := impl.CanCatch(leaps[0], leaps[1], leaps[2], leaps[3]); !ok {
			t.Errorf("CanCatch %v fails", leaps)
		} else if can {
			want = leapsUntilCaught(ahead, leaps[0], leaps[1], leaps[2], leaps[3])
		}
		got, ok := impl.CatchLeaps(ahead, leaps[0], leaps[1], leaps[2], leaps[3])
		wantInt(t, "CatchLeaps", got, ok, want)
	}
}

// TestWhoIsCaught compares how far the dog and the hare come while the dog makes its leaps, for all leaps there are.
func TestWhoIsCaught(t *testing.T) {
	for code := range 20 * 20 * 20 * 20 {
		dog, hare, long, short := code%20+1, code/20%20+1, code/400%20+1, code/8000+1
		dogWay, hareWay := times(rat(dog, 1), rat(short, long)), rat(hare, 1)
		can, ok := impl.CanCatch(dog, hare, long, short)
		if !ok || can != (dogWay.Cmp(hareWay) > 0) {
			t.Errorf("CanCatch %d %d %d %d: got %v, %v", dog, hare, long, short, can, ok)
		}
	}
}

func TestCaughtAtTheTime(t *testing.T) {
	d := drawer{z: 12}
	for range 5000 {
		ahead, time, hare := d.draw(1, 1000), d.draw(1, 1000), d.draw(0, 20)
		num, den, ok := impl.CatchSpeed(ahead, time, hare)
		wantOk(t, "CatchSpeed", true, num, den, ok)
		if num*time != (ahead+hare*time)*den {
			t.Errorf("CatchSpeed %d %d %d: got %d / %d", ahead, time, hare, num, den)
		}
	}
}
