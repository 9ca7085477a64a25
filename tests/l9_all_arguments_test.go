package tests

import (
	"math"
	"slices"
	"sync"
	"testing"

	"loop.example/g01335/impl"
)

// oddClues are at, beside and far from the limits of chapter 9.
var oddClues = []int{math.MinInt, math.MinInt + 1, -13, -12, -11, -1, 0, 1, 2, 3, 4, 5, 6, 7, 9, 10, 11, 12, 13, 24, 25, 99, 100, 101, 1000, 9998, 9999, 10000,
	1 << 32, math.MaxInt - 1, math.MaxInt}

func isGuest(s impl.Snail) bool { return isIn(s.Up, 1, 12) && isIn(s.Down, 0, 12) }

func isTold(c impl.Clue) bool {
	if !isIn(c.Kind, 0, 4) {
		return false
	}
	r := clueRanges[c.Kind]
	return isIn(c.A, r.leastA, r.mostA) && isIn(c.B, r.leastB, r.mostB)
}

func areTold(list []impl.Clue) bool {
	for _, c := range list {
		if !isTold(c) {
			return false
		}
	}
	return len(list) <= 6
}

func TestCluesTakeAllArguments(t *testing.T) {
	for _, kind := range oddClues {
		for _, a := range oddClues {
			for _, b := range oddClues {
				takeClue(t, clue(kind, a, b))
			}
		}
	}
}

func takeClue(t *testing.T, c impl.Clue) {
	t.Helper()
	valid := isTold(c)
	if impl.IsClue(c) != valid {
		t.Errorf("IsClue %v: got %v", c, !valid)
	}
	if fits, ok := impl.DoesFit(c, snail(3, 2)); ok != valid || fits && !ok {
		t.Errorf("DoesFit %v: got %v, %v", c, fits, ok)
	}
	p, ok := impl.AddClue(puzzle("2.0.5"), c)
	if ok != valid || ok && len(p.Clues) != 2 || !ok && p.Clues != nil {
		t.Errorf("AddClue %v: got %v, %v", c, p, ok)
	}
	for _, others := range []string{"", "2.0.0", "2.0.5,0.10.8"} {
		takePuzzle(t, impl.Puzzle{Clues: append(clues(others), c)})
	}
}

func takePuzzle(t *testing.T, p impl.Puzzle) {
	t.Helper()
	valid := areTold(p.Clues)
	if impl.IsPuzzle(p) != valid {
		t.Errorf("IsPuzzle %.9v: got %v", p, !valid)
	}
	list, ok := impl.Solutions(p)
	if ok != valid || !ok && list != nil {
		t.Errorf("Solutions %.9v: got %v, %v", p, list, ok)
	}
	n, ok := impl.CountSolutions(p)
	wantSuccess(t, "CountSolutions", valid, n, ok)
	some := n > 0
	if s, ok := impl.FirstSolution(p); ok != some || isGuest(s) != some {
		t.Errorf("FirstSolution %.9v: got %v, %v", p, s, ok)
	}
	if up, down, ok := impl.SureSnail(p); ok != some || !ok && (up != 0 || down != 0) {
		t.Errorf("SureSnail %.9v: got %d, %d, %v", p, up, down, ok)
	}
	if is, ok := impl.IsSolved(p); ok != valid || is != (n == 1) {
		t.Errorf("IsSolved %.9v: got %v, %v", p, is, ok)
	}
	needless, ok := impl.NeedlessClues(p)
	wantList(t, "NeedlessClues", valid, needless, ok)
	left, ok := impl.LeftByClues(p)
	wantList(t, "LeftByClues", valid, left, ok)
	best, ok := impl.BestClue(p)
	wantSuccess(t, "BestClue", valid && len(p.Clues) > 0, best, ok)
	harder, ok := impl.HarderPuzzle(p)
	if ok != (n == 1) || ok != (len(harder.Clues) > 0) {
		t.Errorf("HarderPuzzle %.9v: got %v, %v", p, harder, ok)
	}
	if text, ok := impl.PuzzleText(p); ok != valid || (text != "") != (valid && len(p.Clues) > 0) {
		t.Errorf("PuzzleText %.9v: got %q, %v", p, text, ok)
	}
}

func TestPuzzlesTakeAllArguments(t *testing.T) {
	lists := [][]impl.Clue{nil, {}, make([]impl.Clue, 100000), slices.Repeat(clues("2.0.5"), 100000)}
	for count := range 9 {
		lists = append(lists, slices.Repeat(clues("2.0.1"), count))
		for k := range count {
			one := slices.Repeat(clues("2.0.1"), count)
			one[k] = clue(3, 0, 1)
			lists = append(lists, one)
		}
	}
	for _, list := range lists {
		p := impl.Puzzle{Clues: list}
		takePuzzle(t, p)
		for _, k := range oddClues {
			q, ok := impl.DropClue(p, k)
			if must := areTold(list) && isIn(k, 0, len(list)-1); ok != must || ok && len(q.Clues) != len(list)-1 || !ok && q.Clues != nil {
				t.Errorf("DropClue %.9v %d: got %v, %v", list, k, q, ok)
			}
		}
		q, ok := impl.AddClue(p, clue(2, 0, 1))
		if must := areTold(list) && len(list) < 6; ok != must || ok && len(q.Clues) != len(list)+1 || !ok && q.Clues != nil {
			t.Errorf("AddClue %.9v: got %v, %v", list, q, ok)
		}
	}
}

func TestHiddenSnailsTakeAllArguments(t *testing.T) {
	for _, up := range oddClues {
		for _, down := range oddClues {
			s := snail(up, down)
			for _, c := range edgeClues {
				if fits, ok := impl.DoesFit(c, s); ok != isGuest(s) || fits && !ok {
					t.Errorf("DoesFit %v %v: got %v, %v", c, s, fits, ok)
				}
			}
			for _, seed := range oddClues {
				for _, count := range oddClues {
					p, ok := impl.MakePuzzle(s, count, seed)
					if must := isGuest(s) && isIn(count, 0, 6) && isIn(seed, 0, 9999); ok != must || ok && len(p.Clues) != count || !ok && p.Clues != nil {
						t.Errorf("MakePuzzle %v %d %d: got %v, %v", s, count, seed, p, ok)
					}
				}
			}
		}
	}
}

// spoilClues writes over all clues of a puzzle, with what is behind their length.
func spoilClues(p impl.Puzzle) {
	list := p.Clues[:cap(p.Clues)]
	for k := range list {
		list[k] = clue(-99, -99, -99)
	}
}

// askClues asks all that is asked of the puzzle 3.2.0,3.3.1,4.0.-3,2.0.9, and spoils what is returned.
func askClues(t *testing.T, p impl.Puzzle) {
	t.Helper()
	list, ok := impl.Solutions(p)
	wantSnails(t, "Solutions", list, ok, snails(3, 6))
	clear(list[:cap(list)])
	needless, ok := impl.NeedlessClues(p)
	wantNumbers(t, "NeedlessClues", needless, ok, []int{0, 1})
	spoil(needless)
	left, ok := impl.LeftByClues(p)
	wantNumbers(t, "LeftByClues", left, ok, []int{156, 78, 26, 2, 1})
	spoil(left)
	n, ok := impl.BestClue(p)
	wantInt(t, "BestClue", n, ok, 2)
	for k, want := range []string{"3.3.1,4.0.-3,2.0.9", "3.2.0,4.0.-3,2.0.9", "3.2.0,3.3.1,2.0.9", "3.2.0,3.3.1,4.0.-3"} {
		dropped, ok := impl.DropClue(p, k)
		wantPuzzle(t, "DropClue", dropped, ok, want)
		spoilClues(dropped)
	}
	longer, ok := impl.AddClue(p, clue(2, 0, 9))
	wantPuzzle(t, "AddClue", longer, ok, "3.2.0,3.3.1,4.0.-3,2.0.9,2.0.9")
	spoilClues(longer)
	harder, ok := impl.HarderPuzzle(p)
	wantPuzzle(t, "HarderPuzzle", harder, ok, "4.0.-3,2.0.9")
	spoilClues(harder)
	text, ok := impl.PuzzleText(p)
	if !ok || text != "3.2.0,3.3.1,4.0.-3,2.0.9" {
		t.Errorf("PuzzleText: got %q, %v", text, ok)
	}
	parsed, ok := impl.ParsePuzzle(text)
	wantPuzzle(t, "ParsePuzzle", parsed, ok, text)
	spoilClues(parsed)
	made, ok := impl.MakePuzzle(snail(3, 2), 3, 0)
	wantPuzzle(t, "MakePuzzle", made, ok, "2.0.5,3.9.0,0.54.52")
	spoilClues(made)
}

// TestPuzzlesAreNotModified looks at the spare capacity behind the clues too, which is neither read nor written.
func TestPuzzlesAreNotModified(t *testing.T) {
	for _, behind := range [][]impl.Clue{badClues, clues("0.1.0,0.1.0,0.1.0,0.1.0")} {
		whole := append(clues("3.2.0,3.3.1,4.0.-3,2.0.9"), behind...)
		before := slices.Clone(whole)
		for range 2 {
			askClues(t, impl.Puzzle{Clues: whole[:4]})
		}
		if !slices.Equal(whole, before) {
			t.Errorf("the clues have become %v", whole)
		}
	}
}

// TestHardPuzzlesAreNotShared asks for changes that leave all clues, or the first ones, or none, and spoils these.
func TestHardPuzzlesAreNotShared(t *testing.T) {
	for _, text := range []string{"4.0.-2,3.9.1", "2.0.1", "2.0.1,0.1.1", "3.2.1,3.3.1,2.0.6", "3.2.1,3.3.1,2.0.6,0.1.1"} {
		whole := append(clues(text), edgeClues...)
		before := slices.Clone(whole)
		p := impl.Puzzle{Clues: whole[:len(clues(text))]}
		for range 2 {
			harder, ok := impl.HarderPuzzle(p)
			if !ok || len(harder.Clues) == 0 {
				t.Errorf("HarderPuzzle %s: got %v, %v", text, harder, ok)
			}
			spoilClues(harder)
			for k := range p.Clues {
				dropped, ok := impl.DropClue(p, k)
				if !ok {
					t.Errorf("DropClue %s %d: fails", text, k)
				}
				spoilClues(dropped)
			}
			longer, ok := impl.AddClue(p, clue(2, 0, 5))
			if !ok {
				t.Errorf("AddClue %s: fails", text)
			}
			spoilClues(longer)
		}
		if !slices.Equal(whole, before) {
			t.Errorf("%s has become %v", text, whole)
		}
	}
	empty := impl.Puzzle{Clues: edgeClues[:0]}
	longer, ok := impl.AddClue(empty, clue(2, 0, 5))
	wantPuzzle(t, "AddClue", longer, ok, "2.0.5")
	if edgeClues[0] != clue(0, 1, 0) {
		t.Errorf("the room behind no clue has become %v", edgeClues[0])
	}
}

// TestPuzzlesAtOnce asks from several goroutines at once: no call knows of another one.
func TestPuzzlesAtOnce(t *testing.T) {
	p := puzzle("3.2.0,3.3.1,4.0.-3,2.0.9")
	bad := puzzle("3.2.0,3.3.1,4.0.-3,2.0.25")
	var group sync.WaitGroup
	for range 8 {
		group.Go(func() {
			for range 50 {
				askClues(t, p)
				takePuzzle(t, bad)
			}
		})
	}
	group.Wait()
}
