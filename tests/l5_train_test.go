package tests

import (
	"math"
	"strings"
	"testing"

	"loop.example/g01335/impl"
)

func train(length int, rate int) impl.Train {
	return impl.Train{Length: length, Rate: rate}
}

// trains have these lengths, and rates that play no part in a siding.
func trains(lengths ...int) []impl.Train {
	list := make([]impl.Train, len(lengths))
	for k, length := range lengths {
		list[k] = train(length, 100-k%100)
	}
	return list
}

func sameTrains(count int, length int) []impl.Train {
	list := make([]impl.Train, count)
	for k := range list {
		list[k] = train(length, 30)
	}
	return list
}

// fastTrain and slowTrain are those of the document's example; evenTrain has the rate of the first one.
var fastTrain, slowTrain, evenTrain = train(120, 30), train(80, 20), train(50, 30)

var goodTrains = []impl.Train{fastTrain, slowTrain, evenTrain, train(1, 1), train(1, 100), train(1000, 1), train(1000, 100), train(7, 3), train(999, 99)}

// badTrains are beside each limit, and far from it.
var badTrains = []impl.Train{{}, train(0, 30), train(-1, 30), train(1001, 30), train(120, 0), train(120, -1), train(120, 101), train(-120, -30),
	train(math.MaxInt, 30), train(math.MinInt, 30), train(120, math.MaxInt), train(120, math.MinInt), train(math.MaxInt, math.MaxInt),
	train(math.MinInt, math.MinInt), train(0, 0), train(1001, 101)}

// badWays are no lengths of bridges, tunnels, gaps, sidings and ways.
var badWays = []int{math.MinInt, -100000, -1, 100001, math.MaxInt}

func TestIsTrain(t *testing.T) {
	for _, one := range goodTrains {
		if !impl.IsTrain(one) {
			t.Errorf("%v is a train", one)
		}
	}
	for _, one := range badTrains {
		if impl.IsTrain(one) {
			t.Errorf("%v is no train", one)
		}
	}
}

func TestPolePassing(t *testing.T) {
	cases := []struct {
		t    impl.Train
		want part
	}{
		{fastTrain, part{4, 1}},
		{slowTrain, part{4, 1}},
		{evenTrain, part{5, 3}},
		{train(1, 1), part{1, 1}},
		{train(1, 100), part{1, 100}},
		{train(1000, 1), part{1000, 1}},
		{train(1000, 100), part{10, 1}},
		{train(7, 3), part{7, 3}},
	}
	for _, c := range cases {
		num, den, ok := impl.PolePassing(c.t)
		wantPart(t, "PolePassing", num, den, ok, c.want)
	}
	for _, bad := range badTrains {
		num, den, ok := impl.PolePassing(bad)
		wantPart(t, "PolePassing", num, den, ok, none)
	}
}

func TestBridgesAndTunnels(t *testing.T) {
	cases := []struct {
		t      impl.Train
		long   int
		bridge part
		tunnel part
	}{
		{fastTrain, 180, part{10, 1}, part{2, 1}},
		// One of no length is a pole, in which no train is.
		{fastTrain, 0, part{4, 1}, none},
		{train(1, 100), 0, part{1, 100}, none},
		{fastTrain, 1, part{121, 30}, none},
		{fastTrain, 119, part{239, 30}, none},
		// A train just as long as a tunnel is wholly in it for no time.
		{fastTrain, 120, part{8, 1}, part{0, 1}},
		{fastTrain, 121, part{241, 30}, part{1, 30}},
		{train(1, 1), 1, part{2, 1}, part{0, 1}},
		{train(1000, 100), 1000, part{20, 1}, part{0, 1}},
		{train(1000, 100), 999, part{1999, 100}, none},
		{fastTrain, 100000, part{10012, 3}, part{9988, 3}},
		{train(1000, 1), 100000, part{101000, 1}, part{99000, 1}},
		{train(1, 100), 100000, part{100001, 100}, part{99999, 100}},
	}
	for _, c := range cases {
		num, den, ok := impl.BridgePassing(c.t, c.long)
		wantPart(t, "BridgePassing", num, den, ok, c.bridge)
		num, den, ok = impl.InsideTunnel(c.t, c.long)
		wantPart(t, "InsideTunnel", num, den, ok, c.tunnel)
	}
}

func TestTrainsThatPass(t *testing.T) {
	cases := []struct {
		s, t        impl.Train
		each        part
		overtaking  part
		seenAgainst part
		seenOneWay  part
	}{
		{fastTrain, slowTrain, part{4, 1}, part{20, 1}, part{8, 5}, part{8, 1}},
		{slowTrain, fastTrain, part{4, 1}, none, part{12, 5}, part{12, 1}},
		{fastTrain, evenTrain, part{17, 6}, none, part{5, 6}, none},
		{evenTrain, fastTrain, part{17, 6}, none, part{2, 1}, none},
		{fastTrain, fastTrain, part{4, 1}, none, part{2, 1}, none},
		{train(1, 100), train(1, 100), part{1, 100}, none, part{1, 200}, none},
		{train(1, 100), train(1, 1), part{2, 101}, part{2, 99}, part{1, 101}, part{1, 99}},
		{train(1, 1), train(1, 100), part{2, 101}, none, part{1, 101}, part{1, 99}},
		{train(1000, 1), train(1000, 1), part{1000, 1}, none, part{500, 1}, none},
		{train(1000, 100), train(1000, 99), part{2000, 199}, part{2000, 1}, part{1000, 199}, part{1000, 1}},
		{train(1000, 99), train(1000, 100), part{2000, 199}, none, part{1000, 199}, part{1000, 1}},
		{train(7, 3), train(4, 2), part{11, 5}, part{11, 1}, part{4, 5}, part{4, 1}},
	}
	for _, c := range cases {
		num, den, ok := impl.PassEachOther(c.s, c.t)
		wantPart(t, "PassEachOther", num, den, ok, c.each)
		num, den, ok = impl.PassOvertaking(c.s, c.t)
		wantPart(t, "PassOvertaking", num, den, ok, c.overtaking)
		num, den, ok = impl.SeenFromTrain(c.s, c.t, true)
		wantPart(t, "SeenFromTrain, against", num, den, ok, c.seenAgainst)
		num, den, ok = impl.SeenFromTrain(c.s, c.t, false)
		wantPart(t, "SeenFromTrain, the same way", num, den, ok, c.seenOneWay)
	}
}

func TestPassWalker(t *testing.T) {
	cases := []struct {
		t       impl.Train
		rate    int
		against part
		oneWay  part
	}{
		{fastTrain, 6, part{10, 3}, part{5, 1}},
		{fastTrain, 1, part{120, 31}, part{120, 29}},
		{fastTrain, 29, part{120, 59}, part{120, 1}},
		{fastTrain, 30, part{2, 1}, none},
		{fastTrain, 31, part{120, 61}, none},
		{fastTrain, 100, part{12, 13}, none},
		{train(1, 100), 100, part{1, 200}, none},
		{train(1, 100), 99, part{1, 199}, part{1, 1}},
		{train(1000, 1), 1, part{500, 1}, none},
		{train(1000, 2), 1, part{1000, 3}, part{1000, 1}},
		{fastTrain, 0, none, none},
		{fastTrain, -1, none, none},
		{fastTrain, -30, none, none},
		{fastTrain, 101, none, none},
		{fastTrain, math.MaxInt, none, none},
		{fastTrain, math.MinInt, none, none},
	}
	for _, c := range cases {
		num, den, ok := impl.PassWalker(c.t, c.rate, true)
		wantPart(t, "PassWalker, against", num, den, ok, c.against)
		num, den, ok = impl.PassWalker(c.t, c.rate, false)
		wantPart(t, "PassWalker, the same way", num, den, ok, c.oneWay)
	}
	for _, bad := range badTrains {
		num, den, ok := impl.PassWalker(bad, 6, true)
		wantPart(t, "PassWalker", num, den, ok, none)
	}
}

func TestGaps(t *testing.T) {
	cases := []struct {
		s, t           impl.Train
		gap            int
		meet, meetWay  part
		after, wayThen part
	}{
		{fastTrain, slowTrain, 100, part{2, 1}, part{60, 1}, part{10, 1}, part{300, 1}},
		{slowTrain, fastTrain, 100, part{2, 1}, part{40, 1}, none, none},
		{fastTrain, slowTrain, 7, part{7, 50}, part{21, 5}, part{7, 10}, part{21, 1}},
		{fastTrain, evenTrain, 100, part{5, 3}, part{50, 1}, none, none},
		{fastTrain, evenTrain, 1, part{1, 60}, part{1, 2}, none, none},
		{slowTrain, fastTrain, 1, part{1, 50}, part{2, 5}, none, none},
		// The gap 0 is over at once, whichever train is faster.
		{fastTrain, slowTrain, 0, part{0, 1}, part{0, 1}, part{0, 1}, part{0, 1}},
		{slowTrain, fastTrain, 0, part{0, 1}, part{0, 1}, part{0, 1}, part{0, 1}},
		{fastTrain, evenTrain, 0, part{0, 1}, part{0, 1}, part{0, 1}, part{0, 1}},
		{fastTrain, slowTrain, 100000, part{2000, 1}, part{60000, 1}, part{10000, 1}, part{300000, 1}},
		{train(1, 1), train(1, 1), 100000, part{50000, 1}, part{50000, 1}, none, none},
		{train(1, 100), train(1, 99), 100000, part{100000, 199}, part{10000000, 199}, part{100000, 1}, part{10000000, 1}},
		{train(1, 100), train(1, 99), 1, part{1, 199}, part{100, 199}, part{1, 1}, part{100, 1}},
		{train(1, 30), train(1, 23), 5, part{5, 53}, part{150, 53}, part{5, 7}, part{150, 7}},
		// Fronts meet as they do whatever the lengths are.
		{train(1000, 30), train(1, 20), 100, part{2, 1}, part{60, 1}, part{10, 1}, part{300, 1}},
	}
	for _, c := range cases {
		num, den, wayNum, wayDen, ok := impl.MeetAfter(c.s, c.t, c.gap)
		wantPart(t, "MeetAfter, time", num, den, ok, c.meet)
		wantPart(t, "MeetAfter, way", wayNum, wayDen, ok, c.meetWay)
		num, den, wayNum, wayDen, ok = impl.OvertakeAfter(c.s, c.t, c.gap)
		wantPart(t, "OvertakeAfter, time", num, den, ok, c.after)
		wantPart(t, "OvertakeAfter, way", wayNum, wayDen, ok, c.wayThen)
	}
}

func TestTrainFromTimes(t *testing.T) {
	cases := []struct {
		bridge, pole, whole int
		length, rate        part
	}{
		{180, 4, 10, part{120, 1}, part{30, 1}},
		{7, 3, 5, part{21, 2}, part{7, 2}},
		{1, 1, 2, part{1, 1}, part{1, 1}},
		{1, 1, 10000, part{1, 9999}, part{1, 9999}},
		{1, 9999, 10000, part{9999, 1}, part{1, 1}},
		// They may be far longer and faster than trains are.
		{100000, 9999, 10000, part{999900000, 1}, part{100000, 1}},
		{100000, 1, 10000, part{100000, 9999}, part{100000, 9999}},
		{180, 9, 10, part{1620, 1}, part{180, 1}},
		{180, 10, 10, none, none},
		{180, 10, 9, none, none},
		{180, 10000, 10000, none, none},
		{0, 4, 10, none, none},
		{-1, 4, 10, none, none},
		{100001, 4, 10, none, none},
		{180, 0, 10, none, none},
		{180, -4, 10, none, none},
		{180, 4, 10001, none, none},
		{180, 10001, 10002, none, none},
		{180, -10, -4, none, none},
		{math.MaxInt, 4, 10, none, none},
		{180, 4, math.MaxInt, none, none},
		{180, math.MinInt, math.MaxInt, none, none},
		{math.MinInt, math.MinInt, math.MinInt, none, none},
	}
	for _, c := range cases {
		num, den, rateNum, rateDen, ok := impl.TrainFromTimes(c.bridge, c.pole, c.whole)
		wantPart(t, "TrainFromTimes, length", num, den, ok, c.length)
		wantPart(t, "TrainFromTimes, rate", rateNum, rateDen, ok, c.rate)
	}
}

func TestCountTrainsMet(t *testing.T) {
	cases := []struct {
		journey, every int
		between, ends  int
	}{
		{7, 1, 13, 15},
		{7, 2, 7, 7},
		{8, 2, 7, 9},
		{7, 6, 3, 3},
		// Only the one that leaves at the time 0 is met between the ends.
		{7, 7, 1, 3},
		{7, 8, 1, 1},
		{1, 1, 1, 3},
		{1, 10000, 1, 1},
		{10000, 1, 19999, 20001},
		{10000, 9999, 3, 3},
		{10000, 10000, 1, 3},
		{9999, 10000, 1, 1},
		{0, 1, fails, fails},
		{-7, 1, fails, fails},
		{7, 0, fails, fails},
		{7, -1, fails, fails},
		{0, 0, fails, fails},
		{10001, 1, fails, fails},
		{7, 10001, fails, fails},
		{math.MaxInt, math.MaxInt, fails, fails},
		{math.MinInt, 1, fails, fails},
		{7, math.MinInt, fails, fails},
	}
	for _, c := range cases {
		n, ok := impl.CountTrainsMet(c.journey, c.every, false)
		wantInt(t, "CountTrainsMet between the ends", n, ok, c.between)
		n, ok = impl.CountTrainsMet(c.journey, c.every, true)
		wantInt(t, "CountTrainsMet", n, ok, c.ends)
	}
}

func TestMetAt(t *testing.T) {
	cases := []struct {
		journey, every, k int
		want              part
	}{
		{7, 1, 0, part{7, 2}},
		{7, 1, 1, part{4, 1}},
		{7, 1, 6, part{13, 2}},
		// One that leaves just at the journey's end is met there.
		{7, 1, 7, part{7, 1}},
		{7, 7, 1, part{7, 1}},
		{7, 1, 8, none},
		{7, 3, 2, part{13, 2}},
		{7, 3, 3, none},
		{7, 8, 0, part{7, 2}},
		{7, 8, 1, none},
		{1, 1, 0, part{1, 2}},
		{7, 10000, 0, part{7, 2}},
		{10000, 1, 10000, part{10000, 1}},
		{10000, 1, 9999, part{19999, 2}},
		{10000, 10000, 1, part{10000, 1}},
		{10000, 10000, 2, none},
		{10000, 1, 10001, none},
		{7, 1, -1, none},
		{7, 1, -7, none},
		{0, 1, 0, none},
		{-7, 1, 0, none},
		{7, 0, 0, none},
		{7, -1, 0, none},
		{10001, 1, 0, none},
		{7, 10001, 0, none},
		{7, 1 << 32, 1 << 32, none},
		{7, math.MaxInt, math.MaxInt, none},
		{7, math.MinInt, 2, none},
		{7, 2, math.MinInt, none},
	}
	for _, c := range cases {
		num, den, ok := impl.MetAt(c.journey, c.every, c.k)
		wantPart(t, "MetAt", num, den, ok, c.want)
	}
}

func TestSidings(t *testing.T) {
	twelve := []int{0, 1, 2, 3, 4, 5, 6, 7, 8, 9, 10, 11}
	cases := []struct {
		list   []impl.Train
		siding int
		// allFit is 1 where all trains fit, and 0 where they do not.
		allFit int
		most   []int
	}{
		{trains(120, 80), 200, 1, []int{0, 1}},
		{trains(120, 80), 201, 1, []int{0, 1}},
		{trains(120, 80), 199, 0, []int{1}},
		{trains(120, 80), 80, 0, []int{1}},
		{trains(120, 80), 79, 0, []int{}},
		{trains(120, 80), 0, 0, []int{}},
		{trains(120, 80, 100), 300, 1, []int{0, 1, 2}},
		{trains(120, 80, 100), 299, 0, []int{1, 2}},
		{trains(120, 80, 100), 180, 0, []int{1, 2}},
		{trains(120, 80, 100), 179, 0, []int{1}},
		// The first ones of several trains of one length are taken.
		{trains(50, 50, 50), 100, 0, []int{0, 1}},
		{trains(50, 50, 50), 149, 0, []int{0, 1}},
		{trains(50, 50, 50), 50, 0, []int{0}},
		{trains(50, 50, 50), 150, 1, []int{0, 1, 2}},
		{trains(30, 10, 30, 10, 30), 50, 0, []int{0, 1, 3}},
		{trains(30, 10, 30, 10, 30), 80, 0, []int{0, 1, 2, 3}},
		{trains(30, 10, 30, 10, 30), 19, 0, []int{1}},
		{trains(1), 1, 1, []int{0}},
		{trains(1), 0, 0, []int{}},
		{trains(1000), 100000, 1, []int{0}},
		{trains(1000), 999, 0, []int{}},
		{sameTrains(12, 1000), 12000, 1, twelve},
		{sameTrains(12, 1000), 11999, 0, twelve[:11]},
		{sameTrains(12, 1), 11, 0, twelve[:11]},
		{sameTrains(12, 1), 100000, 1, twelve},
		{trains(12, 11, 10, 9, 8, 7, 6, 5, 4, 3, 2, 1), 77, 0, []int{1, 2, 3, 4, 5, 6, 7, 8, 9, 10, 11}},
		{trains(12, 11, 10, 9, 8, 7, 6, 5, 4, 3, 2, 1), 5, 0, []int{10, 11}},
		{sameTrains(13, 1), 100, fails, nil},
		{sameTrains(100000, 1), 100000, fails, nil},
		{nil, 100, fails, nil},
		{[]impl.Train{}, 100, fails, nil},
		{trains(120, 80), -1, fails, nil},
		{trains(120, 80), 100001, fails, nil},
		{trains(120, 80), math.MaxInt, fails, nil},
		{trains(120, 80), math.MinInt, fails, nil},
	}
	for _, c := range cases {
		fits, ok := impl.FitsSiding(c.list, c.siding)
		if ok != (c.allFit != fails) || fits != (c.allFit == 1) {
			t.Errorf("FitsSiding %d: got %v, %v", c.siding, fits, ok)
		}
		most, ok := impl.MostInSiding(c.list, c.siding)
		wantNumbers(t, "MostInSiding", most, ok, c.most)
	}
}

func TestLeastHeadway(t *testing.T) {
	cases := []struct {
		s, t impl.Train
		way  int
		want part
	}{
		// A train that is not faster follows as soon as the begin is free.
		{fastTrain, slowTrain, 600, part{4, 1}},
		{fastTrain, evenTrain, 600, part{4, 1}},
		{fastTrain, fastTrain, 100000, part{4, 1}},
		{slowTrain, fastTrain, 600, part{38, 3}},
		{slowTrain, train(1000, 30), 600, part{38, 3}},
		// A way just as long as the train is at its end when the begin is free.
		{slowTrain, fastTrain, 80, part{4, 1}},
		{fastTrain, slowTrain, 120, part{4, 1}},
		{slowTrain, fastTrain, 81, part{241, 60}},
		{slowTrain, fastTrain, 79, none},
		{fastTrain, slowTrain, 119, none},
		{slowTrain, fastTrain, 0, none},
		{train(1000, 1), train(1, 100), 1000, part{1000, 1}},
		{train(1000, 1), train(1, 100), 999, none},
		{train(1000, 1), train(1, 100), 100000, part{99010, 1}},
		{train(1000, 1), train(1, 2), 100000, part{50500, 1}},
		{train(1, 1), train(1, 1), 1, part{1, 1}},
		// Both times that tell are near to each other here.
		{train(1, 99), train(1, 100), 1, part{1, 99}},
		{train(1, 99), train(1, 100), 2, part{101, 9900}},
		{train(1, 100), train(1, 99), 2, part{1, 100}},
		{train(1, 99), train(1, 100), 100000, part{100099, 9900}},
		{train(1, 100), train(1, 99), 100000, part{1, 100}},
	}
	for _, c := range cases {
		num, den, ok := impl.LeastHeadway(c.s, c.t, c.way)
		wantPart(t, "LeastHeadway", num, den, ok, c.want)
	}
}

func TestTrainText(t *testing.T) {
	cases := []struct {
		t    impl.Train
		text string
	}{
		{fastTrain, "120/30"}, {slowTrain, "80/20"}, {train(1, 1), "1/1"}, {train(1000, 100), "1000/100"}, {train(10, 10), "10/10"},
	}
	for _, c := range cases {
		if text, ok := impl.TrainText(c.t); !ok || text != c.text {
			t.Errorf("TrainText %v: got %q, %v", c.t, text, ok)
		}
		if got, ok := impl.ParseTrain(c.text); !ok || got != c.t {
			t.Errorf("ParseTrain %q: got %v, %v", c.text, got, ok)
		}
	}
	for _, bad := range badTrains {
		if text, ok := impl.TrainText(bad); ok || text != "" {
			t.Errorf("TrainText %v: got %q, %v", bad, text, ok)
		}
	}
}

func TestParseTrainOfNoText(t *testing.T) {
	for _, text := range []string{"", "/", "//", "120", "120/", "/30", "120//30", "120/30/", "/120/30", "120/30/5", "120/30,80/20", "120-30", "120:30", "120>30",
		"120 30", " 120/30", "120/30 ", "120 /30", "120/ 30", "120/30\n", "120/30\x00", "+120/30", "120/+30", "-120/30", "120/-30", "-120/-30",
		"0120/30", "120/030", "0/30", "120/0", "-0/30", "120/-0", "00/30", "1001/30", "120/101", "1001/101", "120.0/30", "1e2/30", "0x78/30", "1_20/30",
		"a/b", "120/x", "\xff/30", "１20/30", "120∕30", "120⁄30", "9223372036854775808/30", "120/9223372036854775808", "18446744073709551736/30",
		"120/18446744073709551646", strings.Repeat("9", 10000) + "/30", "120/" + strings.Repeat("0", 10000) + "30", strings.Repeat("/", 100000),
		strings.Repeat("120/30,", 100000)} {
		if got, ok := impl.ParseTrain(text); ok || got != (impl.Train{}) {
			t.Errorf("ParseTrain %.40q: got %v, %v", text, got, ok)
		}
	}
}
