package tests

import (
	"math"
	"slices"
	"strings"
	"testing"

	"loop.example/g01335/impl"
)

func walker(place int, speed int) impl.Walker {
	return impl.Walker{Place: place, Speed: speed}
}

// walkers takes place and speed of each walker.
func walkers(numbers ...int) []impl.Walker {
	var list []impl.Walker
	for k := 0; k < len(numbers); k += 2 {
		list = append(list, walker(numbers[k], numbers[k+1]))
	}
	return list
}

// part is a fraction as it is told; none stands for a failure.
type part struct {
	num, den int
}

var none = part{}

func wantPart(t *testing.T, what string, num int, den int, ok bool, want part) {
	t.Helper()
	if ok != (want != none) || num != want.num || den != want.den {
		t.Errorf("%s: got %d / %d, %v, not %v", what, num, den, ok, want)
	}
}

func wantRows(t *testing.T, what string, got [][]int, ok bool, want [][]int) {
	t.Helper()
	if ok != (want != nil) || !slices.EqualFunc(got, want, slices.Equal[[]int]) {
		t.Errorf("%s: got %v, %v, not %v", what, got, ok, want)
	}
}

var threeWalkers = walkers(0, 3, 10, -2, 4, 0)

// badWalkers are beside each limit, and far from it.
var badWalkers = walkers(1001, 0, -1001, 0, 0, 101, 0, -101, math.MaxInt, 0, math.MinInt, 0, 0, math.MaxInt, 0, math.MinInt)

func TestIsWalker(t *testing.T) {
	for _, w := range walkers(0, 0, 1000, 100, 1000, -100, -1000, 100, -1000, -100, 3, 0) {
		if !impl.IsWalker(w) || !impl.AreWalkers([]impl.Walker{w}) {
			t.Errorf("%v is a walker", w)
		}
	}
	for _, w := range badWalkers {
		if impl.IsWalker(w) || impl.AreWalkers([]impl.Walker{w}) || impl.AreWalkers([]impl.Walker{{}, w}) {
			t.Errorf("%v is no walker", w)
		}
	}
}

func TestAreWalkers(t *testing.T) {
	for count := range 12 {
		if got := impl.AreWalkers(make([]impl.Walker, count)); got != (count >= 1 && count <= 8) {
			t.Errorf("AreWalkers of %d: got %v", count, got)
		}
	}
	if impl.AreWalkers(nil) {
		t.Error("nobody are no walkers")
	}
}

func TestWalkerPlace(t *testing.T) {
	cases := []struct {
		w        impl.Walker
		num, den int
		want     part
	}{
		{walker(0, 3), 4, 3, part{4, 1}},
		{walker(10, -2), 4, 3, part{22, 3}},
		{walker(-5, 2), 5, 2, part{0, 1}},
		{walker(0, -1), 2, 4, part{-1, 2}},
		{walker(-2, 1), 0, 1000, part{-2, 1}},
		{walker(-7, 0), 999, 1000, part{-7, 1}},
		{walker(0, 0), 7, 9, part{0, 1}},
		{walker(1, 1), 1000000, 1000, part{1001, 1}},
		{walker(-1000, -100), 1000000, 1, part{-100001000, 1}},
		{walker(0, 1), 999999, 1000, part{999999, 1000}},
		{walker(0, 3), -1, 1, none},
		{walker(0, 3), 1000001, 1, none},
		{walker(0, 3), 1, 0, none},
		{walker(0, 3), 1, -1, none},
		{walker(0, 3), -1, -1, none},
		{walker(0, 3), 1, 1001, none},
		{walker(1001, 3), 1, 1, none},
		{walker(0, -101), 0, 1, none},
	}
	for _, c := range cases {
		num, den, ok := impl.WalkerPlace(c.w, c.num, c.den)
		wantPart(t, "WalkerPlace", num, den, ok, c.want)
	}
}

func TestGapAt(t *testing.T) {
	cases := []struct {
		w, v     impl.Walker
		num, den int
		want     part
	}{
		{walker(0, 3), walker(10, -2), 1, 1, part{5, 1}},
		{walker(0, 3), walker(10, -2), 2, 1, part{0, 1}},
		{walker(0, 3), walker(10, -2), 3, 1, part{5, 1}},
		{walker(0, 1), walker(1, 1), 1, 3, part{1, 1}},
		{walker(0, 1), walker(0, 2), 2, 6, part{1, 3}},
		{walker(-3, 0), walker(-8, 0), 5, 7, part{5, 1}},
		{walker(-1000, -100), walker(1000, 100), 1000000, 1, part{200002000, 1}},
		{walker(-1000, -100), walker(1000, 100), 1, 1000, part{10001, 5}},
		{walker(0, 3), walker(10, -2), -1, 1, none},
		{walker(0, 3), walker(10, -2), 1000001, 1, none},
		{walker(0, 3), walker(10, -2), 1, 0, none},
		{walker(0, 3), walker(10, -2), 1, 1001, none},
		{walker(0, 3), walker(1001, -2), 1, 1, none},
	}
	for _, c := range cases {
		num, den, ok := impl.GapAt(c.w, c.v, c.num, c.den)
		wantPart(t, "GapAt", num, den, ok, c.want)
		num, den, ok = impl.GapAt(c.v, c.w, c.num, c.den)
		wantPart(t, "GapAt the other way", num, den, ok, c.want)
	}
}

func TestMeetings(t *testing.T) {
	cases := []struct {
		w, v        impl.Walker
		time, place part
	}{
		{walker(0, 3), walker(10, -2), part{2, 1}, part{6, 1}},
		{walker(0, 3), walker(4, 0), part{4, 3}, part{4, 1}},
		{walker(10, 0), walker(0, 4), part{5, 2}, part{10, 1}},
		{walker(0, 7), walker(1, 4), part{1, 3}, part{7, 3}},
		{walker(-1, -4), walker(0, -7), part{1, 3}, part{-7, 3}},
		{walker(-10, 1), walker(-4, -1), part{3, 1}, part{-7, 1}},
		// Both are at one place at the time 0, and may stand there or go on together.
		{walker(5, 2), walker(5, -3), part{0, 1}, part{5, 1}},
		{walker(5, 2), walker(5, 2), part{0, 1}, part{5, 1}},
		{walker(-5, 0), walker(-5, 0), part{0, 1}, part{-5, 1}},
		{walker(0, 0), walker(0, 0), part{0, 1}, part{0, 1}},
		// At one speed the way between them stays; at others they may have met before the time 0 alone.
		{walker(5, 2), walker(6, 2), none, none},
		{walker(3, 0), walker(7, 0), none, none},
		{walker(0, 1), walker(10, 2), none, none},
		{walker(0, -1), walker(10, 1), none, none},
		{walker(0, 0), walker(1, 1), none, none},
		{walker(-1000, 100), walker(1000, -100), part{10, 1}, part{0, 1}},
		{walker(-1000, 1), walker(1000, 0), part{2000, 1}, part{1000, 1}},
		{walker(-1000, -99), walker(1000, -100), part{2000, 1}, part{-199000, 1}},
		{walker(-999, 100), walker(1000, -99), part{1999, 199}, part{1099, 199}},
		{walker(0, 3), walker(1001, -2), none, none},
		{walker(0, 3), walker(10, -101), none, none},
		{walker(-1001, 0), walker(-1001, 0), none, none},
	}
	for _, c := range cases {
		num, den, ok := impl.MeetingTime(c.w, c.v)
		wantPart(t, "MeetingTime", num, den, ok, c.time)
		num, den, ok = impl.MeetingPlace(c.w, c.v)
		wantPart(t, "MeetingPlace", num, den, ok, c.place)
		num, den, ok = impl.MeetingTime(c.v, c.w)
		wantPart(t, "MeetingTime the other way", num, den, ok, c.time)
		num, den, ok = impl.MeetingPlace(c.v, c.w)
		wantPart(t, "MeetingPlace the other way", num, den, ok, c.place)
	}
}

func TestAllMeetings(t *testing.T) {
	cases := []struct {
		list []impl.Walker
		want [][]int
	}{
		{threeWalkers, [][]int{{0, 2, 4, 3}, {0, 1, 2, 1}, {1, 2, 3, 1}}},
		{walkers(0, 3), [][]int{}},
		{walkers(0, 1, 5, 1), [][]int{}},
		{walkers(2, 0, 2, 0, 2, 0), [][]int{{0, 1, 0, 1}, {0, 2, 0, 1}, {1, 2, 0, 1}}},
		{walkers(0, 1, 2, -1, 10, 1, 12, -1), [][]int{{0, 1, 1, 1}, {2, 3, 1, 1}, {0, 3, 6, 1}}},
		{walkers(0, 1, 10, 1, 12, -1, 2, -1), [][]int{{0, 3, 1, 1}, {1, 2, 1, 1}, {0, 2, 6, 1}}},
		{walkers(1000, -100, 1000, -99, -1000, 100), [][]int{{0, 1, 0, 1}, {0, 2, 10, 1}, {1, 2, 2000, 199}}},
		{nil, nil},
		{make([]impl.Walker, 9), nil},
		{walkers(0, 3, 10, -2, 1001, 0), nil},
	}
	for _, c := range cases {
		rows, ok := impl.AllMeetings(c.list)
		wantRows(t, "AllMeetings", rows, ok, c.want)
		want := len(c.want)
		if c.want == nil {
			want = fails
		}
		n, ok := impl.CountMeetings(c.list)
		wantInt(t, "CountMeetings", n, ok, want)
	}
	// As many pairs as there may be meet at once.
	n, ok := impl.CountMeetings(make([]impl.Walker, 8))
	wantInt(t, "CountMeetings", n, ok, 28)
}

func TestWalkersAt(t *testing.T) {
	cases := []struct {
		list     []impl.Walker
		num, den int
		want     []int
	}{
		{threeWalkers, 0, 1, []int{0, 2, 1}},
		{threeWalkers, 4, 3, []int{0, 2, 1}},
		{threeWalkers, 134, 100, []int{2, 0, 1}},
		{threeWalkers, 2, 1, []int{2, 0, 1}},
		{threeWalkers, 201, 100, []int{2, 1, 0}},
		{threeWalkers, 3, 1, []int{1, 2, 0}},
		{threeWalkers, 1000000, 1, []int{1, 2, 0}},
		{walkers(-1, 0, -2, 0, -2, 0, 0, 0), 0, 1000, []int{1, 2, 0, 3}},
		{walkers(7, 7), 1, 1, []int{0}},
		{make([]impl.Walker, 8), 1, 1, []int{0, 1, 2, 3, 4, 5, 6, 7}},
		{make([]impl.Walker, 9), 1, 1, nil},
		{nil, 1, 1, nil},
		{threeWalkers, -1, 1, nil},
		{threeWalkers, 1000001, 1, nil},
		{threeWalkers, 1, 0, nil},
		{threeWalkers, 1, 1001, nil},
		{walkers(0, 3, 0, 101), 1, 1, nil},
	}
	for _, c := range cases {
		order, ok := impl.WalkersAt(c.list, c.num, c.den)
		wantNumbers(t, "WalkersAt", order, ok, c.want)
	}
}

func TestLeadersAndLastOrder(t *testing.T) {
	cases := []struct {
		list          []impl.Walker
		leaders, last []int
	}{
		{threeWalkers, []int{1, 0}, []int{1, 2, 0}},
		{walkers(5, -1), []int{0}, []int{0}},
		{walkers(0, 1, 0, 1), []int{0}, []int{0, 1}},
		{walkers(1, 1, 0, 1), []int{0}, []int{1, 0}},
		{walkers(5, 1, 5, 2), []int{1}, []int{0, 1}},
		{walkers(0, 0, 5, 0, -5, 0), []int{1}, []int{2, 0, 1}},
		{walkers(10, 5, 0, 5, 3, 2), []int{0}, []int{2, 1, 0}},
		// Of the ones that pass a leader at one time the fastest one leads, or the first one of these.
		{walkers(3, 0, 2, 1, 1, 2, 0, 3), []int{0, 3}, []int{0, 1, 2, 3}},
		{walkers(10, 0, 5, 5, 0, 10), []int{0, 2}, []int{0, 1, 2}},
		{walkers(10, 0, 0, 10, 5, 5), []int{0, 1}, []int{0, 2, 1}},
		{walkers(5, 0, 0, 5, 0, 5), []int{0, 1}, []int{0, 1, 2}},
		{walkers(0, 5, 0, 5, 3, 0), []int{2, 0}, []int{2, 0, 1}},
		{walkers(10, 0, 8, 1, 0, 3), []int{0, 1, 2}, []int{0, 1, 2}},
		{walkers(-3, -5, -4, -3), []int{0, 1}, []int{0, 1}},
		{walkers(3, 2, 1, 2, 0, -1, 1, 2), []int{0}, []int{2, 1, 3, 0}},
		{walkers(1000, -1, -1000, 0), []int{0, 1}, []int{0, 1}},
		// Each one behind is faster, and leads for a while.
		{walkers(0, 0, -1, 1, -3, 2, -6, 3, -10, 4, -15, 5, -21, 6, -28, 7), []int{0, 1, 2, 3, 4, 5, 6, 7}, []int{0, 1, 2, 3, 4, 5, 6, 7}},
		{nil, nil, nil},
		{make([]impl.Walker, 9), nil, nil},
		{walkers(0, 3, -1001, 0), nil, nil},
	}
	for _, c := range cases {
		leaders, ok := impl.LeadersOf(c.list)
		wantNumbers(t, "LeadersOf", leaders, ok, c.leaders)
		last, ok := impl.LastOrder(c.list)
		wantNumbers(t, "LastOrder", last, ok, c.last)
	}
}

func TestRing(t *testing.T) {
	cases := []struct {
		around    int
		w, v      impl.Walker
		time, gap part
		places    [][]int
	}{
		{10, walker(0, 3), walker(10, -2), part{0, 1}, part{2, 1}, [][]int{{0, 1}, {2, 1}, {4, 1}, {6, 1}, {8, 1}}},
		{10, walker(0, 0), walker(5, 2), part{5, 2}, part{5, 1}, [][]int{{0, 1}}},
		{10, walker(-1, 0), walker(5, 2), part{2, 1}, part{5, 1}, [][]int{{9, 1}}},
		{3, walker(0, 1), walker(1, 3), part{1, 1}, part{3, 2}, [][]int{{1, 1}, {5, 2}}},
		{3, walker(0, -1), walker(2, -3), part{1, 1}, part{3, 2}, [][]int{{1, 2}, {2, 1}}},
		{1, walker(7, 1), walker(-7, -1), part{0, 1}, part{1, 2}, [][]int{{0, 1}, {1, 2}}},
		{1, walker(7, 1), walker(-7, -2), part{0, 1}, part{1, 3}, [][]int{{0, 1}, {1, 3}, {2, 3}}},
		{1000, walker(-1000, -100), walker(1000, 100), part{0, 1}, part{5, 1}, [][]int{{0, 1}, {500, 1}}},
		{1000, walker(0, 0), walker(1, -1), part{1, 1}, part{1000, 1}, [][]int{{0, 1}}},
		{1000, walker(0, 0), walker(1, 1), part{999, 1}, part{1000, 1}, [][]int{{0, 1}}},
		// At one speed they are at one place always, or never.
		{10, walker(3, 1), walker(13, 1), part{0, 1}, none, nil},
		{10, walker(-7, 1), walker(3, 1), part{0, 1}, none, nil},
		{10, walker(-7, 0), walker(-7, 0), part{0, 1}, none, nil},
		{10, walker(0, 1), walker(3, 1), none, none, nil},
		{10, walker(0, 0), walker(5, 0), none, none, nil},
		{0, walker(0, 3), walker(10, -2), none, none, nil},
		{-10, walker(0, 3), walker(10, -2), none, none, nil},
		{1001, walker(0, 3), walker(10, -2), none, none, nil},
		{10, walker(0, 3), walker(1001, -2), none, none, nil},
		{10, walker(0, 3), walker(10, -101), none, none, nil},
	}
	for _, c := range cases {
		for _, pair := range [][]impl.Walker{{c.w, c.v}, {c.v, c.w}} {
			num, den, ok := impl.RingTime(c.around, pair[0], pair[1])
			wantPart(t, "RingTime", num, den, ok, c.time)
			num, den, ok = impl.RingGap(c.around, pair[0], pair[1])
			wantPart(t, "RingGap", num, den, ok, c.gap)
			places, ok := impl.RingPlaces(c.around, pair[0], pair[1])
			wantRows(t, "RingPlaces", places, ok, c.places)
		}
	}
	places, ok := impl.RingPlaces(1000, walker(0, 100), walker(0, -99))
	if !ok || len(places) != 199 || !slices.Equal(places[1], []int{1000, 199}) || !slices.Equal(places[198], []int{198000, 199}) {
		t.Errorf("RingPlaces of 199: got %v, %v", places, ok)
	}
}

func TestCountRingMeetings(t *testing.T) {
	cases := []struct {
		around     int
		w, v       impl.Walker
		time, want int
	}{
		{10, walker(0, 3), walker(10, -2), 0, 1},
		{10, walker(0, 3), walker(10, -2), 1, 1},
		{10, walker(0, 3), walker(10, -2), 2, 2},
		{10, walker(0, 3), walker(10, -2), 1000, 501},
		{10, walker(0, 0), walker(5, 2), 0, 0},
		{10, walker(0, 0), walker(5, 2), 2, 0},
		{10, walker(0, 0), walker(5, 2), 3, 1},
		{10, walker(0, 0), walker(5, 2), 7, 1},
		{10, walker(0, 0), walker(5, 2), 8, 2},
		{10, walker(0, 0), walker(4, 2), 2, 0},
		{10, walker(0, 0), walker(4, 2), 3, 1},
		{10, walker(0, 0), walker(4, 2), 8, 2},
		{1, walker(0, 100), walker(0, -100), 1000, 200001},
		{1000, walker(0, 0), walker(1, 1), 998, 0},
		{1000, walker(0, 0), walker(1, 1), 1000, 1},
		{10, walker(0, 1), walker(0, 1), 5, fails},
		{10, walker(0, 1), walker(3, 1), 5, fails},
		{10, walker(0, 3), walker(10, -2), -1, fails},
		{10, walker(0, 3), walker(10, -2), 1001, fails},
		{0, walker(0, 3), walker(10, -2), 5, fails},
		{1001, walker(0, 3), walker(10, -2), 5, fails},
		{10, walker(0, 3), walker(-1001, -2), 5, fails},
	}
	for _, c := range cases {
		n, ok := impl.CountRingMeetings(c.around, c.w, c.v, c.time)
		wantInt(t, "CountRingMeetings", n, ok, c.want)
		n, ok = impl.CountRingMeetings(c.around, c.v, c.w, c.time)
		wantInt(t, "CountRingMeetings the other way", n, ok, c.want)
	}
}

func TestAllAtStart(t *testing.T) {
	cases := []struct {
		around int
		list   []impl.Walker
		want   part
	}{
		{12, walkers(0, 4, 5, 6), part{6, 1}},
		{10, walkers(0, 3, 4, 0), part{10, 3}},
		{10, walkers(4, 0, 0, 3), part{10, 3}},
		{7, walkers(3, -2, 1, 4), part{7, 2}},
		{12, walkers(0, -4), part{3, 1}},
		{1, walkers(0, 100), part{1, 100}},
		{1000, walkers(0, 1), part{1000, 1}},
		{10, walkers(0, 6, 0, 10, 0, 15), part{10, 1}},
		{10, walkers(0, 0), none},
		{10, make([]impl.Walker, 8), none},
		{0, walkers(0, 4), none},
		{-12, walkers(0, 4), none},
		{1001, walkers(0, 4), none},
		{12, nil, none},
		{12, append(make([]impl.Walker, 8), walker(0, 4)), none},
		{12, walkers(0, 4, 0, 101), none},
	}
	for _, c := range cases {
		num, den, ok := impl.AllAtStart(c.around, c.list)
		wantPart(t, "AllAtStart", num, den, ok, c.want)
	}
}

func TestWalkersText(t *testing.T) {
	cases := []struct {
		list []impl.Walker
		text string
	}{
		{walkers(0, 3, 10, -2), "0:3,10:-2"},
		{threeWalkers, "0:3,10:-2,4:0"},
		{walkers(0, 0), "0:0"},
		{walkers(-1000, -100, 1000, 100), "-1000:-100,1000:100"},
		{make([]impl.Walker, 8), "0:0,0:0,0:0,0:0,0:0,0:0,0:0,0:0"},
	}
	for _, c := range cases {
		if text, ok := impl.WalkersText(c.list); !ok || text != c.text {
			t.Errorf("WalkersText %v: got %q, %v", c.list, text, ok)
		}
		if list, ok := impl.ParseWalkers(c.text); !ok || !slices.Equal(list, c.list) {
			t.Errorf("ParseWalkers %q: got %v, %v", c.text, list, ok)
		}
	}
	for _, list := range [][]impl.Walker{nil, {}, make([]impl.Walker, 9), walkers(0, 3, 1001, 0), walkers(0, -101)} {
		if text, ok := impl.WalkersText(list); ok || text != "" {
			t.Errorf("WalkersText %v: got %q, %v", list, text, ok)
		}
	}
}

func TestParseWalkersOfNoText(t *testing.T) {
	for _, text := range []string{"", ",", ":", "0", "0:", ":3", "0:3,", ",0:3", "0:3,,1:1", "0:3, 1:1", " 0:3", "0:3 ", "0:3\n",
		"0:3\x00", "+0:3", "0:+3", "00:3", "0:03", "-0:3", "0:-0", "--1:2", "1:--2", "1001:0", "-1001:0", "0:101", "0:-101",
		"0:3;1:2", "0-3", "0:3:4", "0::3", "a:b", "0x1:2", "1_0:2", "1.0:2", "\xff:2", "３:2", "0:3,x",
		"99999999999999999999:1", "0:18446744073709551618", "0:0,0:0,0:0,0:0,0:0,0:0,0:0,0:0,0:0",
		strings.Repeat("9", 10000) + ":1", strings.Repeat(",", 100000), strings.Repeat("0:0,", 100000)} {
		if list, ok := impl.ParseWalkers(text); ok || list != nil {
			t.Errorf("ParseWalkers %.40q: got %v, %v", text, list, ok)
		}
	}
}
