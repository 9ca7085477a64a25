package tests

import (
	"slices"
	"strings"
	"sync"
	"testing"

	"loop.example/g01335/impl"
)

func isSet(d impl.Desk) bool {
	for _, w := range d.Walkers {
		if !isWalking(w) {
			return false
		}
	}
	return isIn(len(d.Walkers), 1, 8) && isIn(d.Around, 1, 1000)
}

// oddDesks have all odd lists of walkers, and all odd rings.
func oddDesks() []impl.Desk {
	list := append(noDesks(), firstDesk, deskOfThree, deskOfEight)
	for _, w := range oddLists() {
		list = append(list, impl.Desk{Walkers: w, Around: 10})
	}
	for _, around := range oddWalks {
		list = append(list, desk(around, 0, 3, 10, -2), desk(around), desk(around, 1001, 0))
	}
	return list
}

// oneOfEach is a line of each name, most of which succeed on a desk of two walkers.
var oneOfEach = []string{"walkers 5:1,-7:0", "ring 12", "turn 1", "add 4:0", "drop 0", "show", "meet 0 1", "where 0 1", "pairs", "first", "lead", "last", "at 2", "around 0 1", "gap 0 1", "places 0 1",
	"start", "dog 60-2-4-6", "run 60-2-4-6", "apart 60-2-4-6 2", "mean 60/30+60/20", "time 60/30", "need 60/30 60 40", "visits 0+3,2+4,8+1", "guides 0+3", "chance 60 15 15"}

func TestDesksTakeAllArguments(t *testing.T) {
	for _, d := range oddDesks() {
		if impl.IsDesk(d) != isSet(d) {
			t.Errorf("IsDesk %.60v: got %v", d, !isSet(d))
		}
		for _, line := range append(oneOfEach, "", "fly", "ring 0", "\n", strings.Repeat("x", 3001)) {
			takeLine(t, d, line)
		}
	}
}

// takeLine holds a line to giving a desk and a reply just when it must.
func takeLine(t *testing.T, d impl.Desk, line string) {
	t.Helper()
	must := isSet(d) && len(line) <= 3000 && !strings.Contains(line, "\n")
	next, reply, ok := impl.DeskLine(d, line)
	if ok != must || isSet(next) != must || (reply != "") != must || !ok && !sameDesk(next, noDesk) {
		t.Errorf("DeskLine %.60v %.60q: got %v, %q, %v", d, line, next, reply, ok)
	}
	if (reply == "no" || reply == "what") && !sameDesk(next, d) {
		t.Errorf("DeskLine %.60v %.60q: got %v with %s", d, line, next, reply)
	}
}

// TestLinesTakeAllBytes puts each byte in place of each one of a line, before it, and cuts the line there.
func TestLinesTakeAllBytes(t *testing.T) {
	for _, line := range oneOfEach {
		for at := range line {
			takeLine(t, firstDesk, line[:at])
			takeLine(t, firstDesk, line[at:])
			for b := range 256 {
				takeLine(t, firstDesk, line[:at]+string([]byte{byte(b)})+line[at+1:])
				takeLine(t, firstDesk, line[:at]+string([]byte{byte(b)})+line[at:])
			}
		}
	}
}

// takeScript holds all that is asked of a text to succeeding just when it is a script.
func takeScript(t *testing.T, text string) {
	t.Helper()
	count := strings.Count(text, "\n")
	must := text == "" || len(text) <= 3000 && count <= 50 && strings.HasSuffix(text, "\n")
	replies, ok := impl.RunScript(text)
	if ok != must || ok && len(replies) != count || !ok && replies != nil || slices.Contains(replies, "") {
		t.Errorf("RunScript %.60q: got %.60q, %v", text, replies, ok)
	}
	d, ok := impl.DeskAfter(text)
	if ok != must || isSet(d) != must || !ok && !sameDesk(d, noDesk) {
		t.Errorf("DeskAfter %.60q: got %v, %v", text, d, ok)
	}
	failed := []int{}
	for k, reply := range replies {
		if reply == "no" || reply == "what" {
			failed = append(failed, k+1)
		}
	}
	if !must {
		failed = nil
	}
	numbers, ok := impl.FailedLines(text)
	wantNumbers(t, "FailedLines", numbers, ok, failed)
}

func TestScriptsTakeAllArguments(t *testing.T) {
	text := script("add 4:0", "meet 0 1", "turn 1", "fly", "drop 9", "places 0 2")
	for at := range text {
		takeScript(t, text[:at])
		takeScript(t, text[at:])
		for b := range 256 {
			takeScript(t, text[:at]+string([]byte{byte(b)})+text[at+1:])
			takeScript(t, text[:at]+string([]byte{byte(b)})+text[at:])
		}
	}
	for _, line := range []string{"", "x", "show", "fly", "drop 0", "turn 0", "add 1:1", "ring 0", "walkers 0:0", strings.Repeat("x", 58), strings.Repeat(" ", 59), strings.Repeat("x", 2998)} {
		for _, count := range []int{0, 1, 2, 48, 49, 50, 51, 52, 100, 3000, 3001, 20000} {
			takeScript(t, strings.Repeat(line+"\n", count))
			takeScript(t, strings.Repeat(line+"\n", count)+"x")
			takeScript(t, strings.Repeat(line+"\n", count)+"\n")
			takeScript(t, strings.Repeat(line, count))
		}
	}
}

// spoilDesk writes over all walkers of a desk, with what is behind their length.
func spoilDesk(d impl.Desk) {
	list := d.Walkers[:cap(d.Walkers)]
	for k := range list {
		list[k] = walker(-99, -99)
	}
}

// askDesk asks a line of each name of the desk of three, and spoils what is returned.
func askDesk(t *testing.T, d impl.Desk) {
	t.Helper()
	for _, line := range append(oneOfEach, "fly", "ring 0", "turn 9", "drop 9", "add 0:0,0:0,0:0,0:0,0:0,0:0", "turn 2", "drop 2", "add 1:1,1:1,1:1,1:1,1:1") {
		c := clerk{desk: deskOfThree}
		reply := c.reply(line)
		next, got, ok := impl.DeskLine(d, line)
		wantDesk(t, "DeskLine "+line, next, ok, c.desk)
		if got != reply {
			t.Errorf("DeskLine %s: got %q, not %q", line, got, reply)
		}
		spoilDesk(next)
	}
}

// TestDesksAreNotModified looks at the spare capacity behind the walkers too, which is neither read nor written.
func TestDesksAreNotModified(t *testing.T) {
	for _, behind := range [][]impl.Walker{badWalkers, walkers(1, 1, 2, 2, 3, 3, 4, 4, 5, 5, 6, 6)} {
		whole := append(slices.Clone(deskOfThree.Walkers), behind...)
		before := slices.Clone(whole)
		for range 2 {
			askDesk(t, impl.Desk{Walkers: whole[:3], Around: 10})
		}
		if !slices.Equal(whole, before) {
			t.Errorf("the walkers have become %v", whole)
		}
	}
}

// askScript runs a script, and spoils what is returned.
func askScript(t *testing.T) {
	t.Helper()
	text := script("add 4:0", "fly", "turn 0", "ring 0", "drop 1", "show")
	replies, ok := impl.RunScript(text)
	wantReplies(t, "RunScript", replies, ok, []string{"0:3,10:-2,4:0", "what", "0:-3,10:-2,4:0", "no", "0:-3,4:0", "0:-3,4:0"})
	clear(replies[:cap(replies)])
	d, ok := impl.DeskAfter(text)
	wantDesk(t, "DeskAfter", d, ok, desk(10, 0, -3, 4, 0))
	spoilDesk(d)
	numbers, ok := impl.FailedLines(text)
	wantNumbers(t, "FailedLines", numbers, ok, []int{2, 4})
	spoil(numbers)
	d, ok = impl.DeskAfter("")
	wantDesk(t, "DeskAfter", d, ok, firstDesk)
	spoilDesk(d)
}

// TestConsolesAtOnce runs scripts and lines from several goroutines at once: no call knows of another one, nor of one before it.
func TestConsolesAtOnce(t *testing.T) {
	var group sync.WaitGroup
	for range 8 {
		group.Go(func() {
			for range 50 {
				askScript(t)
				askDesk(t, deskOfThree)
			}
		})
	}
	group.Wait()
}
