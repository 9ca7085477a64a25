package tests

import (
	"fmt"
	"math"
	"slices"
	"strings"
	"testing"

	"loop.example/g01335/impl"
)

// desk takes place and speed of each walker.
func desk(around int, numbers ...int) impl.Desk {
	return impl.Desk{Walkers: walkers(numbers...), Around: around}
}

func sameDesk(d impl.Desk, e impl.Desk) bool {
	return d.Around == e.Around && slices.Equal(d.Walkers, e.Walkers)
}

// noDesk stands for a failure where a desk is wanted.
var noDesk = impl.Desk{}

func wantDesk(t *testing.T, what string, got impl.Desk, ok bool, want impl.Desk) {
	t.Helper()
	if ok != !sameDesk(want, noDesk) || !sameDesk(got, want) || !ok && got.Walkers != nil {
		t.Errorf("%.60s: got %v, %v, not %v", what, got, ok, want)
	}
}

// wantReplies takes nil as a failure.
func wantReplies(t *testing.T, what string, got []string, ok bool, want []string) {
	t.Helper()
	if ok != (want != nil) || !slices.Equal(got, want) {
		t.Errorf("%.60s: got %.60q, %v, not %.60q", what, got, ok, want)
	}
}

func checkLine(t *testing.T, d impl.Desk, line string, reply string, behind impl.Desk) {
	t.Helper()
	next, got, ok := impl.DeskLine(d, line)
	if !ok || got != reply {
		t.Errorf("DeskLine %v %.60q: got %q, %v, not %q", d, line, got, ok, reply)
	}
	wantDesk(t, "DeskLine "+line, next, ok, behind)
}

// script ends each line by a newline.
func script(lines ...string) string {
	text := ""
	for _, line := range lines {
		text += line + "\n"
	}
	return text
}

func checkScript(t *testing.T, text string, replies []string, failed []int, behind impl.Desk) {
	t.Helper()
	got, ok := impl.RunScript(text)
	wantReplies(t, "RunScript "+text, got, ok, replies)
	d, ok := impl.DeskAfter(text)
	wantDesk(t, "DeskAfter "+text, d, ok, behind)
	numbers, ok := impl.FailedLines(text)
	wantNumbers(t, "FailedLines", numbers, ok, failed)
}

func checkNoScript(t *testing.T, text string) {
	t.Helper()
	checkScript(t, text, nil, nil, noDesk)
}

var firstDesk = desk(10, 0, 3, 10, -2)

// deskOfThree is that of the chapter's example, when a walker has been added.
var deskOfThree = desk(10, 0, 3, 10, -2, 4, 0)

// deskOfEight has as many walkers as there may be; 0 and 1 meet, 2 stands, 3 and 4 are alike.
var deskOfEight = desk(1000, -1000, 100, 1000, -100, 7, 0, 5, 2, 5, 2, -9, 1, 12, -3, 0, 50)

func TestFirstDesk(t *testing.T) {
	d := impl.FirstDesk()
	if !sameDesk(d, firstDesk) {
		t.Errorf("FirstDesk: got %v", d)
	}
	d.Walkers[0] = walker(5, 5)
	if again := impl.FirstDesk(); !sameDesk(again, firstDesk) {
		t.Errorf("FirstDesk has become %v", again)
	}
}

// noDesks have too few walkers or too many, one that is none, or no ring.
func noDesks() []impl.Desk {
	list := []impl.Desk{noDesk, {Around: 10}, {Walkers: []impl.Walker{}, Around: 10}, {Walkers: make([]impl.Walker, 9), Around: 10},
		{Walkers: make([]impl.Walker, 100000), Around: 10}}
	for _, around := range []int{0, -1, 1001, math.MaxInt, math.MinInt, 1 << 32} {
		list = append(list, desk(around, 0, 3, 10, -2))
	}
	for _, w := range badWalkers {
		list = append(list, impl.Desk{Walkers: []impl.Walker{w}, Around: 10}, impl.Desk{Walkers: []impl.Walker{{}, w}, Around: 10},
			impl.Desk{Walkers: append([]impl.Walker{w}, deskOfEight.Walkers[1:]...), Around: 10})
	}
	return list
}

func TestIsDesk(t *testing.T) {
	for _, d := range []impl.Desk{firstDesk, deskOfThree, deskOfEight, desk(1, 0, 0), desk(1000, 1000, 100), desk(1, -1000, -100), {Walkers: make([]impl.Walker, 8), Around: 5}} {
		if !impl.IsDesk(d) {
			t.Errorf("%v is a desk", d)
		}
	}
	for _, d := range noDesks() {
		if impl.IsDesk(d) {
			t.Errorf("%.60v is no desk", d)
		}
	}
}

// lineCase is a line that leaves a desk as it is, with its reply.
type lineCase struct {
	desk        impl.Desk
	line, reply string
}

var walkerLines = []lineCase{
	{firstDesk, "show", "0:3,10:-2"},
	{deskOfThree, "show", "0:3,10:-2,4:0"},
	{desk(7, -5, -6), "show", "-5:-6"},
	{deskOfEight, "show", "-1000:100,1000:-100,7:0,5:2,5:2,-9:1,12:-3,0:50"},
	{firstDesk, "meet 0 1", "2/1"},
	{deskOfThree, "meet 0 2", "4/3"},
	{deskOfThree, "meet 2 0", "4/3"},
	{deskOfThree, "meet 1 2", "3/1"},
	// One meets oneself at once.
	{deskOfThree, "meet 1 1", "0/1"},
	{deskOfEight, "meet 3 4", "0/1"},
	{deskOfEight, "meet 0 7", "20/1"},
	{firstDesk, "where 0 1", "6/1"},
	{firstDesk, "where 1 0", "6/1"},
	{deskOfThree, "where 0 2", "4/1"},
	{deskOfThree, "where 1 1", "10/1"},
	{desk(10, 0, -2, -7, 1), "meet 0 1", "7/3"},
	{desk(10, 0, -2, -7, 1), "where 0 1", "-14/3"},
	{desk(10, 0, -3, -10, -1), "where 0 1", "-15/1"},
	{desk(10, -1, 1, -1, 2), "where 0 1", "-1/1"},
	{deskOfThree, "pairs", "3"},
	{firstDesk, "pairs", "1"},
	{desk(10, 0, 1), "pairs", "0"},
	{desk(10, 0, -1, 1, 1), "pairs", "0"},
	{impl.Desk{Walkers: make([]impl.Walker, 8), Around: 10}, "pairs", "28"},
	{deskOfThree, "first", "0,2"},
	{firstDesk, "first", "0,1"},
	{desk(10, 0, 0, 5, 0, 5, 0), "first", "1,2"},
	{deskOfThree, "lead", "1,0"},
	{desk(10, 0, 1), "lead", "0"},
	{desk(10, 0, 1, 1, 1), "lead", "1"},
	{deskOfThree, "last", "1,2,0"},
	{desk(10, 0, 1), "last", "0"},
	{deskOfThree, "at 0", "0,2,1"},
	{deskOfThree, "at 2", "2,0,1"},
	{deskOfThree, "at 3", "1,2,0"},
	{deskOfThree, "at 999999", "1,2,0"},
	{desk(10, 3, 3), "at 7", "0"},
}

var ringLines = []lineCase{
	{firstDesk, "around 0 1", "0/1"},
	{deskOfThree, "around 0 2", "4/3"},
	{deskOfThree, "around 2 0", "4/3"},
	{deskOfThree, "around 1 2", "3/1"},
	{desk(7, 0, 3, 10, -2), "around 0 1", "3/5"},
	{deskOfThree, "around 1 1", "0/1"},
	{firstDesk, "gap 0 1", "2/1"},
	{deskOfThree, "gap 0 2", "10/3"},
	{desk(1, 0, 100, 0, -100), "gap 1 0", "1/200"},
	{firstDesk, "places 0 1", "0/1,2/1,4/1,6/1,8/1"},
	{deskOfThree, "places 0 2", "4/1"},
	{desk(1, 0, 2, 0, -1), "places 0 1", "0/1,1/3,2/3"},
	{desk(1, 0, 1, 0, 0), "places 1 0", "0/1"},
	{desk(7, -5, 1, 3, -2), "places 0 1", "0/1,7/3,14/3"},
	{firstDesk, "start", "10/1"},
	{desk(12, 0, 4, 5, 6), "start", "6/1"},
	{desk(10, 0, 3, 4, 0), "start", "10/3"},
	{desk(3, 0, -6), "start", "1/2"},
}

var otherLines = []lineCase{
	{firstDesk, "dog 60-2-4-6", "10/1"},
	{firstDesk, "dog 1-0-3-5", "1/3"},
	{firstDesk, "run 60-2-4-6", "60/1"},
	{firstDesk, "run 1-0-3-5", "5/3"},
	{firstDesk, "apart 60-2-4-6 1", "24/1"},
	{firstDesk, "apart 60-2-4-6 2", "6/1"},
	{firstDesk, "apart 60-2-4-6 3", "12/5"},
	{firstDesk, "apart 60-2-4-6 6", "3/50"},
	{firstDesk, "mean 60/30+60/20", "24/1"},
	{firstDesk, "mean 1/3", "3/1"},
	{firstDesk, "mean 1/2+1/3", "12/5"},
	{firstDesk, "time 60/30+60/20", "5/1"},
	{firstDesk, "time 1/2+1/3", "5/6"},
	{firstDesk, "need 60/30 60 40", "60/1"},
	{firstDesk, "need 1/2 1 1", "2/3"},
	{firstDesk, "need 100/100 1000 100", "100/1"},
	{firstDesk, "visits 0+3,2+4,8+1", "0,1"},
	{firstDesk, "visits 0+3,2+4,3+1", "0,1 0,2 1,2"},
	{firstDesk, "visits 0+1,2+1", "-"},
	{firstDesk, "visits 5+5", "-"},
	{firstDesk, "guides 0+3,2+4,8+1", "3,9"},
	{firstDesk, "guides 5+5", "10"},
	{firstDesk, "guides 200+200,0+0", "0,400"},
	{firstDesk, "chance 60 15 15", "9/20"},
	{firstDesk, "chance 1 0 0", "1/1"},
	{firstDesk, "chance 3 1 0", "5/9"},
	{firstDesk, "chance 3 0 1", "5/9"},
	{firstDesk, "chance 60 1 15", "899/3600"},
	{firstDesk, "chance 200 200 200", "1/1"},
}

func TestLinesThatAsk(t *testing.T) {
	for _, c := range slices.Concat(walkerLines, ringLines, otherLines) {
		checkLine(t, c.desk, c.line, c.reply, c.desk)
	}
}

func TestLinesWithEffects(t *testing.T) {
	cases := []struct {
		line, reply string
		behind      impl.Desk
	}{
		{"walkers 5:1", "5:1", desk(10, 5, 1)},
		{"walkers -1000:-100,1000:100", "-1000:-100,1000:100", desk(10, -1000, -100, 1000, 100)},
		{"walkers 1:0,2:0,3:0,4:0,5:0,6:0,7:0,8:0", "1:0,2:0,3:0,4:0,5:0,6:0,7:0,8:0", desk(10, 1, 0, 2, 0, 3, 0, 4, 0, 5, 0, 6, 0, 7, 0, 8, 0)},
		{"ring 1", "0:3,10:-2,4:0", desk(1, 0, 3, 10, -2, 4, 0)},
		{"ring 10", "0:3,10:-2,4:0", deskOfThree},
		{"ring 1000", "0:3,10:-2,4:0", desk(1000, 0, 3, 10, -2, 4, 0)},
		{"turn 0", "0:-3,10:-2,4:0", desk(10, 0, -3, 10, -2, 4, 0)},
		{"turn 1", "0:3,10:2,4:0", desk(10, 0, 3, 10, 2, 4, 0)},
		// One that stands does so the other way too.
		{"turn 2", "0:3,10:-2,4:0", deskOfThree},
		{"add 5:1", "0:3,10:-2,4:0,5:1", desk(10, 0, 3, 10, -2, 4, 0, 5, 1)},
		{"add 0:3,10:-2", "0:3,10:-2,4:0,0:3,10:-2", desk(10, 0, 3, 10, -2, 4, 0, 0, 3, 10, -2)},
		{"add 1:0,2:0,3:0,4:0,5:0", "0:3,10:-2,4:0,1:0,2:0,3:0,4:0,5:0", desk(10, 0, 3, 10, -2, 4, 0, 1, 0, 2, 0, 3, 0, 4, 0, 5, 0)},
		{"drop 0", "10:-2,4:0", desk(10, 10, -2, 4, 0)},
		{"drop 1", "0:3,4:0", desk(10, 0, 3, 4, 0)},
		{"drop 2", "0:3,10:-2", firstDesk},
	}
	for _, c := range cases {
		checkLine(t, deskOfThree, c.line, c.reply, c.behind)
	}
}

func TestLinesThatFail(t *testing.T) {
	apartDesk := desk(10, 0, -1, 1, 1)
	aloneDesk := desk(10, 0, 0)
	cases := []struct {
		desk  impl.Desk
		lines []string
	}{
		{firstDesk, []string{
			// There is no such walker.
			"turn 2", "turn 999999", "drop 2", "drop 999999", "meet 0 2", "meet 2 0", "meet 2 2", "where 0 2", "where 999999 1", "around 0 2", "around 2 1", "gap 2 0", "gap 1 9",
			"places 0 2", "places 2 0",
			// There is no such ring.
			"ring 0", "ring 1001", "ring 999999",
			// There would be too many walkers.
			"add 0:0,0:0,0:0,0:0,0:0,0:0,0:0", "add 1:0,2:0,3:0,4:0,5:0,6:0,7:0,8:0",
			// Both have one speed.
			"gap 0 0", "gap 1 1", "places 1 1",
			// The function fails.
			"apart 60-2-4-6 0", "apart 60-2-4-6 7", "apart 60-2-4-6 999999", "need 60/30 60 60", "need 60/30 40 60", "need 60/30 0 40", "need 60/30 1001 40", "need 60/30 60 0",
			"need 60/30 60 101", "need 60/30 60 999999", "chance 0 15 15", "chance 201 15 15", "chance 60 201 15", "chance 60 15 201", "chance 999999 0 0",
		}},
		{deskOfEight, []string{"add 0:0", "add 1:0,2:0", "meet 0 8", "turn 8", "drop 8", "meet 5 2222", "gap 3 4", "places 4 3"}},
		// Nobody meets anybody.
		{apartDesk, []string{"first", "meet 0 1", "where 0 1", "meet 1 0"}},
		// The last walker is not dropped, and nobody moves.
		{aloneDesk, []string{"drop 0", "drop 1", "first", "start", "meet 0 1", "around 0 1", "gap 0 0"}},
		{desk(10, 0, 0, 5, 0), []string{"first", "start", "meet 0 1", "where 0 1", "around 0 1", "gap 0 1", "places 0 1"}},
		{desk(10, 0, 7, 5, 7), []string{"first", "around 0 1", "gap 0 1", "places 1 0"}},
	}
	for _, c := range cases {
		for _, line := range c.lines {
			checkLine(t, c.desk, line, "no", c.desk)
		}
	}
}

// noLines are none of the lines of the table.
var noLines = []string{
	"", " ", "  ", "fly", "no", "what", "0:3,10:-2", "-", "Show", "SHOW", "shown", "sho", "showshow", "meet0 1", "meet,0,1",
	// There are too many words, or too few, or one is empty.
	"show ", " show", "show  ", "show show", "show 0", "meet", "meet ", "meet 0", "meet 0 ", "meet 0 1 ", " meet 0 1", "meet  0 1", "meet 0  1", "meet 0 1 2", "meet 0 1 0:3", "where 0", "where 0 1 1",
	"pairs 0", "pairs ", "first 0", "first 0 1", "lead 0", "last 0", "at", "at ", "at 2 1", "around", "around 0", "around 10 0 1", "gap 0", "gap 0 1 2", "places 0", "places 0 1 2", "start 0", "start ",
	"ring", "ring ", "ring 5 5", "turn", "turn ", "turn 0 1", "add", "add ", "add 4:0 5:0", "add  4:0", "drop", "drop ", "drop 0 1", "walkers", "walkers ", "walkers 0:3 10:-2",
	"dog", "dog ", "dog 60-2-4-6 2", "run", "run 60-2-4-6 60-2-4-6", "apart", "apart 60-2-4-6", "apart 60-2-4-6 ", "apart 60-2-4-6 2 2", "mean", "mean ", "mean 60/30 60/20", "time", "time 60/30 1",
	"need", "need 60/30", "need 60/30 60", "need 60/30 60 40 40", "visits", "visits ", "visits 0+3 2+4", "guides", "guides 0+3 3", "chance", "chance 60", "chance 60 15", "chance 60 15 15 15", "chance 60 15 15 ",
	// A number is none, also where there is another reason to fail.
	"meet 00 1", "meet 0 01", "meet +0 1", "meet 0 +1", "meet -0 1", "meet 0 -1", "meet 0 1.0", "meet 0 1e0", "meet 0x0 1", "meet 0 x", "meet x 0", "meet 9 x", "meet x 9", "meet 0 1000000", "meet 0 1_0",
	"meet 0 9999999999999999999999", "meet 0 １", "meet 0,1 1", "where 0 01", "around 00 1", "gap 0 -1", "places 0 +1", "ring 010", "ring -10", "ring +10", "ring 1000000", "ring 00", "ring 10:0", "ring x",
	"turn 00", "turn 01", "turn -1", "turn x", "drop 00", "drop -1", "drop 1000000", "at 02", "at -1", "at 1000000", "at 2/1", "at x", "apart 60-2-4-6 02", "apart 60-2-4-6 -2", "apart 60-2-4-6 x",
	"apart 60-2-4-6 1000000", "need 60/30 060 40", "need 60/30 60 040", "need 60/30 60 -40", "need 60/30 x 40", "need 60/30 0 x", "need 60/30 x 0", "chance 060 15 15", "chance 60 015 15", "chance 60 15 015",
	"chance 0 0 x", "chance x 15 15", "chance 60 +15 15", "chance 60 15 1000000",
	// A text is none.
	"walkers x", "walkers 0", "walkers 0:3,", "walkers ,", "walkers 0:03", "walkers +0:3", "walkers 0:-0", "walkers 1001:0", "walkers 0:101", "walkers 0:-101", "walkers 0:3;10:-2",
	"walkers 0:0,0:0,0:0,0:0,0:0,0:0,0:0,0:0,0:0", "walkers 60-2-4-6", "add x", "add 4", "add 4:0,", "add 04:0", "add 0:0,0:0,0:0,0:0,0:0,0:0,0:0,0:0,0:0", "add 1001:0", "add 0:101,0:0,0:0,0:0,0:0,0:0,0:0",
	"dog x", "dog 60", "dog 60-2-4", "dog 60-2-4-6-8", "dog 60-2-4-4", "dog 60-0-0-6", "dog 0-2-4-6", "dog 1001-2-4-6", "dog 60-2-4-21", "dog 060-2-4-6", "dog 60/30", "run 60-2-4-3", "run 60:2:4:6",
	"apart x 2", "apart 2 60-2-4-6", "apart 60-2-4-4 2", "apart 60-2-4-4 0", "mean x", "mean 60", "mean 60/0", "mean 60/101", "mean 1001/30", "mean 0/30", "mean 60/30+", "mean 60/30,60/20", "mean 1/1+1/1+1/1+1/1+1/1+1/1",
	"time 60/030", "time 0:3", "need x 60 40", "need 60 60/30 40", "need 60 40 60/30", "need 60/0 60 40", "visits x", "visits 0+3,", "visits 0+201", "visits 201+0", "visits 0-3", "visits 00+3",
	"visits 0+0,0+0,0+0,0+0,0+0,0+0,0+0", "guides x", "guides 0", "guides 0+3;2+4", "guides 60/30",
	// Other bytes are not those of the table.
	"show\r", "show\x00", "\xffshow", "show\t", "meet\t0\t1", "meet 0\t1", "meet 0 1\r", "meet 0\u00a01", "meet\u20030 1", "ｓhow", "\x00", "\r", "\xc3\x28", "show;show",
}

func TestLinesThatAreNone(t *testing.T) {
	long := []string{strings.Repeat(" ", impl.MaxScript), strings.Repeat("x", impl.MaxScript), "meet " + strings.Repeat("0", 900) + " 1", "show" + strings.Repeat(" ", 900),
		"ring " + strings.Repeat("9", 2000), "walkers " + strings.Repeat("0:0,", 700) + "0:0", "visits " + strings.Repeat(",", 2000), strings.Repeat("\xff", 3000)}
	for _, line := range slices.Concat(noLines, long) {
		for _, d := range []impl.Desk{firstDesk, deskOfEight, desk(1, 0, 0)} {
			checkLine(t, d, line, "what", d)
		}
	}
}

func TestDeskLineOfNoDeskOrLine(t *testing.T) {
	for _, d := range noDesks() {
		for _, line := range []string{"show", "walkers 0:3", "ring 10", "dog 60-2-4-6", "fly", ""} {
			next, reply, ok := impl.DeskLine(d, line)
			wantDesk(t, "DeskLine "+line, next, ok, noDesk)
			if reply != "" {
				t.Errorf("DeskLine %.60v %s: got %q", d, line, reply)
			}
		}
	}
	long := strings.Repeat("x", impl.MaxScript+1)
	for _, line := range []string{"\n", "show\n", "\nshow", "show\nshow", "walkers 0:3\n", long, strings.Repeat(" ", 100000), long[1:] + "\n"} {
		next, reply, ok := impl.DeskLine(firstDesk, line)
		wantDesk(t, "DeskLine "+line, next, ok, noDesk)
		if reply != "" {
			t.Errorf("DeskLine %.60q: got %q", line, reply)
		}
	}
}

func TestScriptOfTheExample(t *testing.T) {
	text := script("meet 0 1", "where 0 1", "around 0 1", "gap 0 1", "places 0 1", "add 4:0", "first", "lead", "last", "at 2", "turn 1", "pairs", "drop 1", "start", "ring 0", "dog 60-2-4-6",
		"apart 60-2-4-6 2", "mean 60/30+60/20", "need 60/30 60 40", "visits 0+3,2+4,8+1", "guides 0+3,2+4,8+1", "chance 60 15 15", "walkers x", "fly")
	replies := []string{"2/1", "6/1", "0/1", "2/1", "0/1,2/1,4/1,6/1,8/1", "0:3,10:-2,4:0", "0,2", "1,0", "1,2,0", "2,0,1", "0:3,10:2,4:0", "2", "0:3,4:0", "10/3", "no", "10/1",
		"6/1", "24/1", "60/1", "0,1", "3,9", "9/20", "what", "what"}
	checkScript(t, text, replies, []int{15, 23, 24}, desk(10, 0, 3, 4, 0))
}

func TestScripts(t *testing.T) {
	checkScript(t, "", []string{}, []int{}, firstDesk)
	checkScript(t, script("show"), []string{"0:3,10:-2"}, []int{}, firstDesk)
	checkScript(t, script(""), []string{"what"}, []int{1}, firstDesk)
	checkScript(t, script("", "show", ""), []string{"what", "0:3,10:-2", "what"}, []int{1, 3}, firstDesk)
	checkScript(t, script("ring 7", "around 0 1", "ring 0", "around 0 1", "ring 1001", "ring 1000", "around 0 1"),
		[]string{"0:3,10:-2", "3/5", "no", "3/5", "no", "0:3,10:-2", "2/1"}, []int{3, 5}, desk(1000, 0, 3, 10, -2))
	// The last walker stays.
	checkScript(t, script("drop 0", "drop 0", "drop 1", "turn 0", "show", "walkers 4:0", "first", "visits 1+1,3+1"),
		[]string{"10:-2", "no", "no", "10:2", "10:2", "4:0", "no", "-"}, []int{2, 3, 7}, desk(10, 4, 0))
	// Walkers are added until there are too many, all of them or none.
	checkScript(t, script("add 1:0,2:0,3:0", "add 4:0,5:0", "add 6:0,7:0", "add 6:0", "add 7:0", "pairs", "drop 7", "add 7:0"),
		[]string{"0:3,10:-2,1:0,2:0,3:0", "0:3,10:-2,1:0,2:0,3:0,4:0,5:0", "no", "0:3,10:-2,1:0,2:0,3:0,4:0,5:0,6:0", "no", "13",
			"0:3,10:-2,1:0,2:0,3:0,4:0,5:0", "0:3,10:-2,1:0,2:0,3:0,4:0,5:0,7:0"}, []int{3, 5}, desk(10, 0, 3, 10, -2, 1, 0, 2, 0, 3, 0, 4, 0, 5, 0, 7, 0))
	// Nobody who was turned twice goes another way.
	checkScript(t, script("turn 0", "meet 0 1", "turn 1", "meet 0 1", "turn 0", "turn 1", "where 0 1"),
		[]string{"0:-3,10:-2", "no", "0:-3,10:2", "no", "0:3,10:2", "0:3,10:-2", "6/1"}, []int{2, 4}, firstDesk)
	checkScript(t, script("show\r", "show"), []string{"what", "0:3,10:-2"}, []int{1}, firstDesk)
}

func TestScriptsThatAreNone(t *testing.T) {
	for _, text := range []string{"show", " ", "x", "show\nshow", "\nshow", "show\n\nshow", "show\r", "show\n ", "\x00", strings.Repeat("\n", 51), strings.Repeat("\n", 100000),
		strings.Repeat("x", 100000), strings.Repeat("show", 100), strings.Repeat("\n", 50) + "x"} {
		checkNoScript(t, text)
	}
}

func TestLimitsOfScripts(t *testing.T) {
	replies, numbers := slices.Repeat([]string{"what"}, 50), []int{}
	for number := range 50 {
		numbers = append(numbers, number+1)
	}
	fifty := strings.Repeat("\n", 50)
	checkScript(t, fifty, replies, numbers, firstDesk)
	checkNoScript(t, fifty+"\n")
	checkNoScript(t, strings.Repeat("show\n", 51))
	checkScript(t, strings.Repeat("show\n", 50), slices.Repeat([]string{"0:3,10:-2"}, 50), []int{}, firstDesk)
	checkScript(t, strings.Repeat("turn 0\n", 49)+"ring 5\n", append(slices.Repeat([]string{"0:-3,10:-2", "0:3,10:-2"}, 25)[:49], "0:-3,10:-2"), []int{}, desk(5, 0, -3, 10, -2))
	// So many bytes are counted with the newlines.
	long := strings.Repeat("x", impl.MaxScript-1)
	checkScript(t, long+"\n", []string{"what"}, []int{1}, firstDesk)
	checkNoScript(t, long+"x\n")
	checkNoScript(t, long+"x")
	checkScript(t, "turn 0\n"+long[7:]+"\n", []string{"0:-3,10:-2", "what"}, []int{2}, desk(10, 0, -3, 10, -2))
	checkNoScript(t, "turn 0\n"+long[6:]+"\n")
	sixty := strings.Repeat("y", 59) + "\n"
	checkScript(t, strings.Repeat(sixty, 50), replies, numbers, firstDesk)
	checkNoScript(t, strings.Repeat(sixty, 49)+"y"+sixty)
}

// TestNumbersOfFailedLines fails at each line of a script in turn, and at all but one.
func TestNumbersOfFailedLines(t *testing.T) {
	for at := range 50 {
		for _, bad := range []string{"fly", "ring 0"} {
			lines := slices.Repeat([]string{"pairs"}, 50)
			lines[at] = bad
			numbers, ok := impl.FailedLines(script(lines...))
			wantNumbers(t, fmt.Sprintf("FailedLines %s at %d", bad, at), numbers, ok, []int{at + 1})
			others := slices.Repeat([]string{bad}, 50)
			others[at] = "pairs"
			numbers, ok = impl.FailedLines(script(others...))
			if !ok || len(numbers) != 49 || slices.Contains(numbers, at+1) || !slices.IsSorted(numbers) {
				t.Errorf("FailedLines %s but at %d: got %v, %v", bad, at, numbers, ok)
			}
		}
	}
}
