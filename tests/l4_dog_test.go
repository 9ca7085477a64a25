package tests

import (
	"math"
	"strings"
	"testing"

	"loop.example/g01335/impl"
)

func chase(apart int, left int, right int, dog int) impl.Chase {
	return impl.Chase{Apart: apart, Left: left, Right: right, Dog: dog}
}

// dogChase is the chase of the document's example, and the others have a walker who stands, or a dog just faster than both; allStand is none.
var (
	dogChase    = chase(60, 2, 4, 6)
	leftStands  = chase(12, 0, 1, 2)
	rightStands = chase(12, 1, 0, 2)
	justFaster  = chase(1000, 19, 19, 20)
	allStand    = chase(12, 0, 0, 2)
)

var goodChases = []impl.Chase{dogChase, leftStands, rightStands, justFaster, chase(1, 0, 1, 2), chase(1, 1, 0, 2), chase(1, 1, 1, 2),
	chase(1000, 19, 0, 20), chase(1000, 0, 19, 20), chase(1000, 0, 1, 20), chase(60, 2, 4, 5), chase(60, 4, 2, 5), chase(60, 2, 4, 20)}

// badChases are beside each limit, and far from it.
var badChases = []impl.Chase{{}, allStand, chase(0, 2, 4, 6), chase(-1, 2, 4, 6), chase(1001, 2, 4, 6), chase(math.MaxInt, 2, 4, 6),
	chase(math.MinInt, 2, 4, 6), chase(60, -1, 4, 6), chase(60, 2, -1, 6), chase(60, -1, 1, 6), chase(60, 1, -1, 6), chase(60, -1, -1, 6),
	chase(60, 6, 4, 6), chase(60, 2, 6, 6), chase(60, 7, 4, 6), chase(60, 2, 7, 6), chase(60, 6, 6, 6), chase(60, 2, 4, 4), chase(60, 4, 2, 4),
	chase(60, 2, 4, 3), chase(60, 2, 4, 21), chase(60, 2, 4, 0), chase(60, 2, 4, -6), chase(60, 20, 4, 20), chase(60, 2, 20, 20),
	chase(60, 20, 4, 21), chase(60, 2, 20, 21), chase(60, 21, 4, 22), chase(60, 2, 21, 22), chase(60, math.MaxInt, 4, 6), chase(60, 2, math.MaxInt, 6),
	chase(60, math.MinInt, 4, 6), chase(60, 2, math.MinInt, 6), chase(60, 2, 4, math.MaxInt), chase(60, 2, 4, math.MinInt),
	chase(60, math.MaxInt, math.MaxInt, math.MinInt), chase(60, math.MinInt, math.MinInt, 6)}

func TestIsChase(t *testing.T) {
	for _, c := range goodChases {
		if !impl.IsChase(c) {
			t.Errorf("%v is a chase", c)
		}
	}
	for _, c := range badChases {
		if impl.IsChase(c) {
			t.Errorf("%v is no chase", c)
		}
	}
}

func TestMeetingOfChase(t *testing.T) {
	cases := []struct {
		c                      impl.Chase
		time, dog, left, right part
	}{
		{dogChase, part{10, 1}, part{60, 1}, part{20, 1}, part{40, 1}},
		{chase(60, 2, 4, 5), part{10, 1}, part{50, 1}, part{20, 1}, part{40, 1}},
		{leftStands, part{12, 1}, part{24, 1}, part{0, 1}, part{12, 1}},
		{rightStands, part{12, 1}, part{24, 1}, part{12, 1}, part{0, 1}},
		{chase(7, 1, 2, 3), part{7, 3}, part{7, 1}, part{7, 3}, part{14, 3}},
		{chase(1, 19, 19, 20), part{1, 38}, part{10, 19}, part{1, 2}, part{1, 2}},
		{chase(1000, 0, 1, 20), part{1000, 1}, part{20000, 1}, part{0, 1}, part{1000, 1}},
		{chase(1000, 19, 18, 20), part{1000, 37}, part{20000, 37}, part{19000, 37}, part{18000, 37}},
		{chase(0, 2, 4, 6), none, none, none, none},
		{chase(1001, 2, 4, 6), none, none, none, none},
		{allStand, none, none, none, none},
		{chase(60, 2, 4, 4), none, none, none, none},
		{chase(60, 2, 4, 21), none, none, none, none},
	}
	for _, c := range cases {
		num, den, ok := impl.TimeToMeet(c.c)
		wantPart(t, "TimeToMeet", num, den, ok, c.time)
		num, den, ok = impl.DogDistance(c.c)
		wantPart(t, "DogDistance", num, den, ok, c.dog)
		left, leftDen, right, rightDen, ok := impl.DistanceOf(c.c)
		wantPart(t, "DistanceOf, left", left, leftDen, ok, c.left)
		wantPart(t, "DistanceOf, right", right, rightDen, ok, c.right)
	}
}

func TestDogTurns(t *testing.T) {
	six := [][]int{{6, 1, 36, 1}, {9, 1, 18, 1}, {48, 5, 108, 5}, {99, 10, 99, 5}, {249, 25, 504, 25}, {999, 100, 999, 50}}
	cases := []struct {
		c     impl.Chase
		turns int
		want  [][]int
	}{
		{dogChase, 1, six[:1]},
		{dogChase, 2, six[:2]},
		{dogChase, 5, six[:5]},
		{dogChase, 6, six},
		{leftStands, 4, [][]int{{4, 1, 8, 1}, {8, 1, 0, 1}, {28, 3, 8, 3}, {32, 3, 0, 1}}},
		{rightStands, 4, [][]int{{6, 1, 12, 1}, {8, 1, 8, 1}, {10, 1, 12, 1}, {32, 3, 32, 3}}},
		{justFaster, 2, [][]int{{1000, 39, 20000, 39}, {40000, 1521, 760000, 1521}}},
		{dogChase, 0, nil},
		{dogChase, -1, nil},
		{dogChase, 7, nil},
		{dogChase, math.MaxInt, nil},
		{dogChase, math.MinInt, nil},
		{allStand, 1, nil},
		{chase(60, 2, 4, 4), 1, nil},
		{chase(1001, 2, 4, 6), 1, nil},
	}
	for _, c := range cases {
		rows, ok := impl.DogTurns(c.c, c.turns)
		wantRows(t, "DogTurns", rows, ok, c.want)
	}
}

func TestApartAfterTurn(t *testing.T) {
	cases := []struct {
		c    impl.Chase
		turn int
		want part
	}{
		{dogChase, 1, part{24, 1}},
		{dogChase, 2, part{6, 1}},
		{dogChase, 3, part{12, 5}},
		{dogChase, 6, part{3, 50}},
		{leftStands, 1, part{8, 1}},
		{leftStands, 2, part{4, 1}},
		{rightStands, 1, part{6, 1}},
		{rightStands, 2, part{4, 1}},
		{justFaster, 1, part{1000, 39}},
		{justFaster, 6, part{1000, 3518743761}},
		{chase(1, 19, 19, 20), 6, part{1, 3518743761}},
		{chase(1000, 0, 1, 20), 6, part{6859000, 9261}},
		{dogChase, 0, none},
		{dogChase, -1, none},
		{dogChase, 7, none},
		{allStand, 1, none},
		{chase(60, 6, 4, 6), 1, none},
	}
	for _, c := range cases {
		num, den, ok := impl.ApartAfterTurn(c.c, c.turn)
		wantPart(t, "ApartAfterTurn", num, den, ok, c.want)
	}
}

func TestRatioOfTurns(t *testing.T) {
	cases := []struct {
		c       impl.Chase
		atRight part
		atLeft  part
	}{
		{dogChase, part{2, 5}, part{1, 4}},
		{chase(1000, 2, 4, 6), part{2, 5}, part{1, 4}},
		{chase(60, 4, 2, 6), part{1, 4}, part{2, 5}},
		{leftStands, part{2, 3}, part{1, 2}},
		{rightStands, part{1, 2}, part{2, 3}},
		{justFaster, part{1, 39}, part{1, 39}},
		{chase(1000, 0, 1, 20), part{20, 21}, part{19, 20}},
		{allStand, none, none},
		{chase(60, 2, 4, 21), none, none},
		{chase(-60, 2, 4, 6), none, none},
	}
	for _, c := range cases {
		num, den, nextNum, nextDen, ok := impl.RatioOfTurns(c.c)
		wantPart(t, "RatioOfTurns, right", num, den, ok, c.atRight)
		wantPart(t, "RatioOfTurns, left", nextNum, nextDen, ok, c.atLeft)
	}
}

// sixTurns have the turns 6 and 7 at times that may be told: 78 and 79, or 63 and 127 / 2, before the meetings at 81 and 64.
var sixTurns, sixHalves = chase(81, 0, 1, 2), chase(128, 1, 1, 3)

func TestDogAtTimes(t *testing.T) {
	cases := []struct {
		c        impl.Chase
		num, den int
		place    part
		turns    int
	}{
		{dogChase, 0, 1, part{0, 1}, 0},
		{dogChase, 0, 100, part{0, 1}, 0},
		{dogChase, 1, 1, part{6, 1}, 0},
		{dogChase, 599, 100, part{1797, 50}, 0},
		{dogChase, 6, 1, part{36, 1}, 1},
		{dogChase, 601, 100, part{1797, 50}, 1},
		{dogChase, 7, 1, part{30, 1}, 1},
		{dogChase, 9, 1, part{18, 1}, 2},
		{dogChase, 19, 2, part{21, 1}, 2},
		{dogChase, 48, 5, part{108, 5}, 3},
		{dogChase, 96, 10, part{108, 5}, 3},
		{dogChase, 99, 10, part{99, 5}, 4},
		{dogChase, 249, 25, part{504, 25}, 5},
		{dogChase, 999, 100, part{999, 50}, 6},
		// The meeting has a place, though it is behind all turns.
		{dogChase, 10, 1, part{20, 1}, fails},
		{dogChase, 1000, 100, part{20, 1}, fails},
		{sixTurns, 77, 1, part{2, 1}, 5},
		{sixTurns, 78, 1, part{0, 1}, 6},
		{sixTurns, 157, 2, part{1, 1}, 6},
		{sixTurns, 79, 1, none, fails},
		{sixTurns, 80, 1, none, fails},
		{sixTurns, 81, 1, part{0, 1}, fails},
		{sixTurns, 82, 1, none, fails},
		{sixHalves, 63, 1, part{63, 1}, 6},
		{sixHalves, 253, 4, part{255, 4}, 6},
		{sixHalves, 127, 2, none, fails},
		{sixHalves, 64, 1, part{64, 1}, fails},
		{rightStands, 6, 1, part{12, 1}, 1},
		{rightStands, 7, 1, part{10, 1}, 1},
		{rightStands, 9, 1, part{10, 1}, 2},
		{rightStands, 12, 1, part{12, 1}, fails},
		{chase(1, 19, 19, 20), 1, 38, part{1, 2}, fails},
		{chase(1, 19, 19, 20), 1, 39, part{20, 39}, 1},
		{chase(1, 19, 19, 20), 1, 40, part{1, 2}, 0},
		{chase(1000, 1, 0, 20), 1000, 1, part{1000, 1}, fails},
		{chase(1000, 1, 0, 20), 1000, 100, part{200, 1}, 0},
		{chase(1000, 1, 0, 20), 49, 1, part{980, 1}, 0},
	}
	for _, c := range cases {
		num, den, ok := impl.DogPlace(c.c, c.num, c.den)
		wantPart(t, "DogPlace", num, den, ok, c.place)
		n, ok := impl.TurnsUntil(c.c, c.num, c.den)
		wantInt(t, "TurnsUntil", n, ok, c.turns)
	}
}

// badMoments are no times of the chase: beside the limits, or later than its meeting.
var badMoments = []struct {
	c        impl.Chase
	num, den int
}{
	{dogChase, -1, 1}, {dogChase, 1, 0}, {dogChase, 1, -1}, {dogChase, -1, -1}, {dogChase, 0, 0}, {dogChase, 1, 101}, {dogChase, 0, 101},
	{dogChase, 11, 1}, {dogChase, 991, 99}, {dogChase, 1001, 100}, {dogChase, math.MaxInt, 1}, {dogChase, math.MaxInt, math.MaxInt},
	{dogChase, math.MinInt, 1}, {dogChase, 1, math.MinInt}, {dogChase, 1, math.MaxInt}, {dogChase, math.MinInt, math.MinInt},
	{chase(1000, 1, 0, 20), 1001, 1}, {chase(1000, 1, 0, 20), 1001, 100}, {chase(1, 19, 19, 20), 1, 37},
	{allStand, 0, 1}, {allStand, 1, 1}, {chase(60, 2, 4, 4), 1, 1}, {chase(60, 2, 4, 21), 1, 1}, {chase(1001, 2, 4, 6), 1, 1},
}

func TestTimesThatAreNone(t *testing.T) {
	for _, m := range badMoments {
		num, den, ok := impl.DogPlace(m.c, m.num, m.den)
		wantPart(t, "DogPlace", num, den, ok, none)
		n, ok := impl.TurnsUntil(m.c, m.num, m.den)
		wantInt(t, "TurnsUntil", n, ok, fails)
		n, ok = impl.SlowestDog(m.c, m.num, m.den)
		wantInt(t, "SlowestDog", n, ok, fails)
	}
}

func TestRunToRight(t *testing.T) {
	cases := []struct {
		c     impl.Chase
		turns int
		want  part
	}{
		{dogChase, 1, part{36, 1}},
		{dogChase, 2, part{36, 1}},
		{dogChase, 3, part{198, 5}},
		{dogChase, 4, part{198, 5}},
		{dogChase, 5, part{999, 25}},
		{dogChase, 6, part{999, 25}},
		{leftStands, 3, part{32, 3}},
		{rightStands, 3, part{16, 1}},
		{justFaster, 1, part{20000, 39}},
		{dogChase, 0, none},
		{dogChase, -1, none},
		{dogChase, 7, none},
		{allStand, 1, none},
		{chase(60, 2, 4, 21), 1, none},
	}
	for _, c := range cases {
		num, den, ok := impl.RunToRight(c.c, c.turns)
		wantPart(t, "RunToRight", num, den, ok, c.want)
	}
}

func TestTurnChase(t *testing.T) {
	cases := []struct{ c, want impl.Chase }{
		{dogChase, chase(60, 4, 2, 6)},
		{chase(60, 4, 2, 6), dogChase},
		{leftStands, rightStands},
		{rightStands, leftStands},
		{justFaster, justFaster},
	}
	for _, c := range cases {
		if got, ok := impl.TurnChase(c.c); !ok || got != c.want {
			t.Errorf("TurnChase %v: got %v, %v", c.c, got, ok)
		}
	}
	for _, c := range badChases {
		if got, ok := impl.TurnChase(c); ok || got != (impl.Chase{}) {
			t.Errorf("TurnChase %v: got %v, %v", c, got, ok)
		}
	}
}

func TestSlowestDog(t *testing.T) {
	cases := []struct {
		c        impl.Chase
		num, den int
		want     int
	}{
		{dogChase, 6, 1, 6},
		{dogChase, 12, 2, 6},
		{dogChase, 599, 100, 7},
		{dogChase, 5, 1, 8},
		{dogChase, 5, 2, 20},
		{dogChase, 249, 100, fails},
		{dogChase, 0, 1, fails},
		// Dog plays no part: neither a greater nor a lesser one changes what is least.
		{chase(60, 2, 4, 20), 6, 1, 6},
		{chase(60, 2, 4, 5), 6, 1, 6},
		{chase(60, 2, 4, 5), 5, 2, 20},
		// It is faster than both walkers, though a slower one would be there as soon.
		{dogChase, 10, 1, 5},
		{chase(60, 4, 2, 6), 10, 1, 5},
		{chase(60, 0, 6, 20), 10, 1, 7},
		{leftStands, 12, 1, 2},
		{rightStands, 12, 1, 2},
		{rightStands, 11, 1, 2},
		{rightStands, 6, 1, 2},
		{rightStands, 5, 1, 3},
		{chase(1, 19, 19, 20), 1, 38, 20},
		{chase(1, 19, 19, 20), 1, 39, 20},
		{chase(1, 19, 19, 20), 1, 40, fails},
		{chase(1000, 0, 1, 2), 1000, 21, 20},
		{chase(1000, 0, 1, 2), 1000, 22, fails},
		{chase(1000, 0, 1, 2), 1000, 1, 2},
	}
	for _, c := range cases {
		n, ok := impl.SlowestDog(c.c, c.num, c.den)
		wantInt(t, "SlowestDog", n, ok, c.want)
	}
}

func TestCatchLeaps(t *testing.T) {
	cases := []struct {
		ahead, dog, hare, long, short int
		want                          int
	}{
		{50, 3, 4, 2, 3, 300},
		{1, 2, 1, 1, 1, 2},
		{1, 3, 1, 1, 1, 2},
		{1, 20, 1, 1, 20, 1},
		{10, 5, 2, 3, 2, 38},
		{1000, 19, 18, 20, 19, 380000},
		{1000, 20, 1, 1, 20, 51},
		{1, 1, 20, 1, 20, fails},
		{50, 2, 3, 2, 3, fails},
		{50, 1, 1, 1, 1, fails},
		{50, 1, 20, 20, 1, fails},
		{50, 3, 4, 3, 2, fails},
		{0, 3, 4, 2, 3, fails},
		{-1, 3, 4, 2, 3, fails},
		{1001, 3, 4, 2, 3, fails},
	}
	for _, c := range cases {
		n, ok := impl.CatchLeaps(c.ahead, c.dog, c.hare, c.long, c.short)
		wantInt(t, "CatchLeaps", n, ok, c.want)
		if can, fine := impl.CanCatch(c.dog, c.hare, c.long, c.short); !fine || isIn(c.ahead, 1, 1000) && can != ok {
			t.Errorf("CanCatch %v: got %v, %v", c, can, fine)
		}
	}
}

func TestLeapsThatAreNone(t *testing.T) {
	for _, bad := range []int{math.MinInt, -3, -1, 0, 21, math.MaxInt} {
		for k := range 4 {
			leaps := [4]int{3, 4, 2, 3}
			leaps[k] = bad
			n, ok := impl.CatchLeaps(50, leaps[0], leaps[1], leaps[2], leaps[3])
			wantInt(t, "CatchLeaps", n, ok, fails)
			if can, fine := impl.CanCatch(leaps[0], leaps[1], leaps[2], leaps[3]); can || fine {
				t.Errorf("CanCatch %v: got %v, %v", leaps, can, fine)
			}
		}
	}
}

func TestCatchSpeed(t *testing.T) {
	cases := []struct {
		ahead, time, hare int
		want              part
	}{
		{10, 5, 3, part{5, 1}},
		{7, 2, 1, part{9, 2}},
		{10, 4, 0, part{5, 2}},
		{1, 1000, 0, part{1, 1000}},
		{1, 1000, 20, part{20001, 1000}},
		{1000, 1, 20, part{1020, 1}},
		{1000, 1000, 0, part{1, 1}},
		{0, 5, 3, none},
		{-1, 5, 3, none},
		{1001, 5, 3, none},
		{10, 0, 3, none},
		{10, -5, 3, none},
		{10, 1001, 3, none},
		{10, 5, -1, none},
		{10, 5, 21, none},
		{math.MaxInt, 5, 3, none},
		{10, math.MaxInt, 3, none},
		{10, 5, math.MaxInt, none},
		{math.MinInt, math.MinInt, math.MinInt, none},
	}
	for _, c := range cases {
		num, den, ok := impl.CatchSpeed(c.ahead, c.time, c.hare)
		wantPart(t, "CatchSpeed", num, den, ok, c.want)
	}
}

func TestChaseText(t *testing.T) {
	cases := []struct {
		c    impl.Chase
		text string
	}{
		{dogChase, "60-2-4-6"},
		{leftStands, "12-0-1-2"},
		{rightStands, "12-1-0-2"},
		{justFaster, "1000-19-19-20"},
		{chase(1, 0, 1, 2), "1-0-1-2"},
	}
	for _, c := range cases {
		if text, ok := impl.ChaseText(c.c); !ok || text != c.text {
			t.Errorf("ChaseText %v: got %q, %v", c.c, text, ok)
		}
		if got, ok := impl.ParseChase(c.text); !ok || got != c.c {
			t.Errorf("ParseChase %q: got %v, %v", c.text, got, ok)
		}
	}
	for _, c := range badChases {
		if text, ok := impl.ChaseText(c); ok || text != "" {
			t.Errorf("ChaseText %v: got %q, %v", c, text, ok)
		}
	}
}

func TestParseChaseOfNoText(t *testing.T) {
	for _, text := range []string{"", "-", "---", "60", "60-2", "60-2-4", "60-2-4-", "-2-4-6", "60--4-6", "60-2--6", "60-2-4-6-", "-60-2-4-6",
		"60-2-4-6-8", "60-2-4-6-60-2-4-6", "60-2-4-6,60-2-4-6", "60--2-4-6", "60-2--4-6", "60-2-4--6", "+60-2-4-6", "60-+2-4-6", "60-2-+4-6",
		"60-2-4-+6", "060-2-4-6", "60-02-4-6", "60-2-04-6", "60-2-4-06", "60-00-4-6", "60--0-4-6", " 60-2-4-6", "60-2-4-6 ", "60 -2-4-6",
		"60-2-4-6\n", "60-2-4-6\x00", "0-2-4-6", "1001-2-4-6", "60-0-0-6", "60-6-4-6", "60-2-6-6", "60-2-4-4", "60-2-4-21", "60-20-4-20",
		"60-20-4-21", "60/2/4/6", "60:2:4:6", "60.0-2-4-6", "0x3c-2-4-6", "6_0-2-4-6", "6e1-2-4-6", "a-b-c-d", "60-2-4-x", "\xff-2-4-6", "６0-2-4-6",
		"60−2−4−6", "9223372036854775808-2-4-6", "60-2-4-18446744073709551622", strings.Repeat("9", 10000) + "-2-4-6",
		strings.Repeat("-", 100000), strings.Repeat("60-2-4-6-", 100000)} {
		if c, ok := impl.ParseChase(text); ok || c != (impl.Chase{}) {
			t.Errorf("ParseChase %.40q: got %v, %v", text, c, ok)
		}
	}
}
