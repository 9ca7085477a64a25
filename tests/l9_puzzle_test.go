package tests

import (
	"math"
	"slices"
	"strconv"
	"strings"
	"testing"

	"loop.example/g01335/impl"
)

func clue(kind int, a int, b int) impl.Clue {
	return impl.Clue{Kind: kind, A: a, B: b}
}

// clues takes the text of clues apart; its numbers may be any.
func clues(text string) []impl.Clue {
	var list []impl.Clue
	for piece := range strings.SplitSeq(text, ",") {
		if piece == "" {
			continue
		}
		var numbers []int
		for digits := range strings.SplitSeq(piece, ".") {
			n, err := strconv.Atoi(digits)
			if err != nil {
				panic("no clue: " + piece)
			}
			numbers = append(numbers, n)
		}
		list = append(list, clue(numbers[0], numbers[1], numbers[2]))
	}
	return list
}

func puzzle(text string) impl.Puzzle { return impl.Puzzle{Clues: clues(text)} }

// snails takes Up and Down of each snail.
func snails(numbers ...int) []impl.Snail {
	list := []impl.Snail{}
	for k := 0; k < len(numbers); k += 2 {
		list = append(list, snail(numbers[k], numbers[k+1]))
	}
	return list
}

// noPuzzle stands for a failure where the text of a puzzle is wanted.
const noPuzzle = "none"

func wantPuzzle(t *testing.T, what string, got impl.Puzzle, ok bool, want string) {
	t.Helper()
	var list []impl.Clue
	if want != noPuzzle {
		list = clues(want)
	}
	if ok != (want != noPuzzle) || !slices.Equal(got.Clues, list) || !ok && got.Clues != nil {
		t.Errorf("%s: got %v, %v, not %s", what, got, ok, want)
	}
}

func wantSnails(t *testing.T, what string, got []impl.Snail, ok bool, want []impl.Snail) {
	t.Helper()
	if ok != (want != nil) || !slices.Equal(got, want) {
		t.Errorf("%s: got %v, %v, not %v", what, got, ok, want)
	}
}

// edgeClues are just at each limit of each kind.
var edgeClues = clues("0.1.0,0.1.100,0.100.0,0.100.100,0.10.8,1.1.1,1.1.100,1.100.1,1.100.100,1.50.7,2.0.0,2.0.24,2.0.5,3.2.0,3.2.1,3.9.0,3.9.1,4.0.-12,4.0.12,4.0.0")

// badClues are just beside each limit of each kind, or far from it.
var badClues = append(clues("0.0.1,0.-1.1,0.101.1,0.10.-1,0.10.101,1.0.1,1.-1.1,1.101.1,1.1.0,1.1.-1,1.1.101,2.1.5,2.-1.5,2.0.-1,2.0.25,"+
	"3.1.0,3.1.1,3.0.0,3.0.1,3.-2.1,3.10.0,3.10.1,3.2.2,3.2.-1,4.1.0,4.-1.0,4.0.-13,4.0.13,-1.10.1,-1.0.1,5.0.1,5.1.1,5.2.1,10.0.0,0.0.0,1.0.0,3.0.0"), farClues()...)

func farClues() []impl.Clue {
	var list []impl.Clue
	for _, far := range []int{math.MinInt, math.MaxInt, 1 << 32, -1 << 32} {
		list = append(list, clue(far, 1, 1), clue(far, 0, 0), clue(far, 2, 1))
		for kind, c := range clues("0.10.8,1.10.8,2.0.5,3.2.1,4.0.1") {
			list = append(list, clue(kind, far, c.B), clue(kind, c.A, far), clue(kind, far, far))
		}
	}
	return list
}

// sixClues are MaxClues of them that the snail 12-12 fits.
const sixClues = "3.4.1,3.6.1,4.0.0,2.0.24,1.2.12,0.12.1"

// noPuzzles are lists of clues that are no puzzles: too many clues, or a bad one, also behind one that no hidden snail fits.
func noPuzzles() []impl.Puzzle {
	list := []impl.Puzzle{puzzle(sixClues + ",2.0.24"), puzzle("2.0.0,2.0.0,2.0.0,2.0.0,2.0.0,2.0.0,2.0.0"),
		{Clues: slices.Repeat(clues("2.0.5"), 100000)}, {Clues: make([]impl.Clue, 100000)}}
	for _, bad := range badClues {
		list = append(list, impl.Puzzle{Clues: []impl.Clue{bad}})
		for _, text := range []string{"2.0.5", "2.0.0", "2.0.5,0.10.8", "2.0.5,2.0.5,2.0.5,2.0.5,2.0.5"} {
			others := clues(text)
			list = append(list, impl.Puzzle{Clues: append(slices.Clone(others), bad)}, impl.Puzzle{Clues: append([]impl.Clue{bad}, others...)})
		}
	}
	return list
}

func TestIsClue(t *testing.T) {
	for _, c := range edgeClues {
		if !impl.IsClue(c) {
			t.Errorf("%v is a clue", c)
		}
	}
	for _, c := range badClues {
		if impl.IsClue(c) {
			t.Errorf("%v is no clue", c)
		}
	}
}

func TestIsPuzzle(t *testing.T) {
	for _, text := range []string{"", "2.0.5,0.10.8", "4.0.-2,3.9.1", "2.0.0", sixClues, "2.0.0,2.0.0,2.0.0,2.0.0,2.0.0,2.0.0"} {
		if !impl.IsPuzzle(puzzle(text)) {
			t.Errorf("%q is a puzzle", text)
		}
	}
	if !impl.IsPuzzle(impl.Puzzle{Clues: []impl.Clue{}}) {
		t.Error("no clue is a puzzle")
	}
	for _, c := range edgeClues {
		if !impl.IsPuzzle(impl.Puzzle{Clues: []impl.Clue{c}}) {
			t.Errorf("%v alone is a puzzle", c)
		}
	}
	for _, p := range noPuzzles() {
		if impl.IsPuzzle(p) {
			t.Errorf("%.9v is no puzzle", p)
		}
	}
}

func TestDoesFit(t *testing.T) {
	cases := []struct {
		clue string
		s    impl.Snail
		fits bool
	}{
		{"0.10.8", snail(3, 2), true},
		{"0.10.7", snail(3, 2), false},
		{"0.10.9", snail(3, 2), false},
		{"0.3.1", snail(3, 2), true},
		{"0.4.1", snail(3, 2), false},
		// One that never comes to the top, and one that does.
		{"0.10.0", snail(3, 3), true},
		{"0.10.0", snail(1, 12), true},
		{"0.10.0", snail(3, 2), false},
		{"0.10.1", snail(3, 3), false},
		{"0.3.0", snail(3, 3), false},
		{"0.3.1", snail(3, 3), true},
		{"0.100.100", snail(1, 0), true},
		{"0.100.99", snail(2, 1), true},
		{"0.100.89", snail(12, 11), true},
		{"0.100.9", snail(12, 0), true},
		{"1.1.3", snail(3, 2), true},
		{"1.8.10", snail(3, 2), true},
		{"1.8.9", snail(3, 2), false},
		{"1.98.100", snail(3, 2), true},
		{"1.97.99", snail(3, 2), true},
		{"1.100.100", snail(3, 2), true},
		{"1.100.100", snail(12, 0), true},
		{"1.100.1", snail(1, 1), true},
		{"1.100.1", snail(1, 0), false},
		{"1.9.100", snail(12, 0), true},
		{"1.8.96", snail(12, 0), true},
		{"1.50.7", snail(7, 12), true},
		{"2.0.5", snail(3, 2), true},
		{"2.0.5", snail(5, 0), true},
		{"2.0.5", snail(3, 3), false},
		{"2.0.24", snail(12, 12), true},
		{"2.0.1", snail(1, 0), true},
		{"2.0.0", snail(1, 0), false},
		{"3.3.1", snail(3, 2), true},
		{"3.3.0", snail(3, 2), false},
		{"3.3.1", snail(12, 2), true},
		{"3.2.1", snail(3, 2), false},
		{"3.2.0", snail(3, 2), true},
		{"3.9.0", snail(3, 9), true},
		{"3.9.1", snail(9, 2), true},
		{"3.4.0", snail(2, 4), true},
		{"4.0.1", snail(3, 2), true},
		{"4.0.-1", snail(3, 2), false},
		{"4.0.-1", snail(2, 3), true},
		{"4.0.12", snail(12, 0), true},
		{"4.0.-11", snail(1, 12), true},
		{"4.0.-12", snail(1, 12), false},
		{"4.0.0", snail(12, 12), true},
	}
	for _, c := range cases {
		if fits, ok := impl.DoesFit(clues(c.clue)[0], c.s); fits != c.fits || !ok {
			t.Errorf("DoesFit %s %v: got %v, %v", c.clue, c.s, fits, ok)
		}
	}
	for _, c := range badClues {
		if fits, ok := impl.DoesFit(c, snail(1, 1)); fits || ok {
			t.Errorf("DoesFit %v: got %v, %v", c, fits, ok)
		}
	}
	// A snail of chapter 1 is not a hidden one beyond the limits of these.
	for _, s := range []impl.Snail{{}, snail(0, 1), snail(13, 0), snail(1, 13), snail(1, -1), snail(-1, 0), snail(1000, 1000),
		snail(math.MaxInt, 1), snail(math.MinInt, 1), snail(1, math.MaxInt), snail(1, math.MinInt)} {
		for _, c := range edgeClues {
			if fits, ok := impl.DoesFit(c, s); fits || ok {
				t.Errorf("DoesFit %v %v: got %v, %v", c, s, fits, ok)
			}
		}
	}
}

func TestSolutions(t *testing.T) {
	cases := []struct {
		text string
		want []impl.Snail
	}{
		{"2.0.5,0.10.8", snails(3, 2)},
		{"4.0.-2,3.9.1", snails(9, 11)},
		{"2.0.1", snails(1, 0)},
		{"2.0.5", snails(1, 4, 2, 3, 3, 2, 4, 1, 5, 0)},
		{"2.0.24", snails(12, 12)},
		{"2.0.0", snails()},
		{"4.0.-12", snails()},
		{"4.0.-11", snails(1, 12)},
		{"4.0.12", snails(12, 0)},
		{"4.0.-10", snails(1, 11, 2, 12)},
		{"0.1.0", snails()},
		{"0.100.100", snails(1, 0)},
		{"0.100.89", snails(12, 11)},
		{"0.10.8", snails(3, 2)},
		{"1.100.1", snails(1, 1, 1, 2, 1, 3, 1, 4, 1, 5, 1, 6, 1, 7, 1, 8, 1, 9, 1, 10, 1, 11, 1, 12)},
		{"1.2.5,3.2.1", snails(4, 3)},
		{"1.2.5,4.0.-1", snails(5, 6)},
		{"2.0.5,0.10.0", snails(1, 4, 2, 3)},
		{"2.0.5,0.10.0,4.0.1", snails()},
		{"3.2.1,3.3.1,2.0.12", snails(6, 6, 12, 0)},
		{sixClues, snails(12, 12)},
	}
	for _, c := range cases {
		list, ok := impl.Solutions(puzzle(c.text))
		wantSnails(t, "Solutions "+c.text, list, ok, c.want)
		n, ok := impl.CountSolutions(puzzle(c.text))
		wantInt(t, "CountSolutions "+c.text, n, ok, len(c.want))
		first, ok := impl.FirstSolution(puzzle(c.text))
		if ok != (len(c.want) > 0) || ok && first != c.want[0] || !ok && first != snail(0, 0) {
			t.Errorf("FirstSolution %s: got %v, %v", c.text, first, ok)
		}
		if is, ok := impl.IsSolved(puzzle(c.text)); is != (len(c.want) == 1) || !ok {
			t.Errorf("IsSolved %s: got %v, %v", c.text, is, ok)
		}
	}
}

// TestSolutionsOfNoClue holds a puzzle without clues to having all hidden snails as its solutions.
func TestSolutionsOfNoClue(t *testing.T) {
	all := snails()
	for up := 1; up <= 12; up++ {
		for down := 0; down <= 12; down++ {
			all = append(all, snail(up, down))
		}
	}
	for _, p := range []impl.Puzzle{{}, {Clues: []impl.Clue{}}} {
		list, ok := impl.Solutions(p)
		wantSnails(t, "Solutions", list, ok, all)
		n, ok := impl.CountSolutions(p)
		wantInt(t, "CountSolutions", n, ok, 156)
		if first, ok := impl.FirstSolution(p); first != snail(1, 0) || !ok {
			t.Errorf("FirstSolution: got %v, %v", first, ok)
		}
		if is, ok := impl.IsSolved(p); is || !ok {
			t.Errorf("IsSolved: got %v, %v", is, ok)
		}
	}
}

func TestCountsOfOneClue(t *testing.T) {
	cases := []struct {
		text string
		want int
	}{
		{"0.1.1", 156},
		{"0.10.0", 72},
		{"0.100.0", 78},
		{"0.100.1", 0},
		{"0.12.1", 13},
		{"1.1.1", 13},
		{"1.100.100", 78},
		{"1.100.1", 12},
		{"1.1.100", 0},
		{"1.2.5", 10},
		{"2.0.12", 12},
		{"3.2.0", 78},
		{"3.2.1", 78},
		{"3.5.1", 26},
		{"3.9.0", 143},
		{"4.0.0", 12},
		{"4.0.-2", 10},
	}
	for _, c := range cases {
		n, ok := impl.CountSolutions(puzzle(c.text))
		wantInt(t, "CountSolutions "+c.text, n, ok, c.want)
		left, ok := impl.LeftByClues(puzzle(c.text))
		wantNumbers(t, "LeftByClues "+c.text, left, ok, []int{156, c.want})
	}
}

func TestSureSnail(t *testing.T) {
	cases := []struct {
		text     string
		up, down int
		ok       bool
	}{
		{"2.0.1", 1, 0, true},
		{"2.0.5,0.10.8", 3, 2, true},
		{"4.0.-2,3.9.1", 9, 11, true},
		{"2.0.24", 12, 12, true},
		// Up is sure, and Down is not; there is no puzzle of which Down alone is sure.
		{"3.9.1", 9, -1, true},
		{"1.1.1", 1, -1, true},
		{"0.12.1", 12, -1, true},
		{"1.100.1", 1, -1, true},
		{"1.2.5,0.100.0", 5, -1, true},
		{"1.2.8,0.8.2", -1, -1, true},
		{"0.100.0,4.0.-10", -1, -1, true},
		{"", -1, -1, true},
		{"0.1.1", -1, -1, true},
		{"2.0.5", -1, -1, true},
		{"1.2.5", -1, -1, true},
		{"3.2.1,3.3.1,2.0.12", -1, -1, true},
		// No solution leaves nothing to be sure of.
		{"2.0.0", 0, 0, false},
		{"4.0.-12", 0, 0, false},
		{"2.0.5,0.10.0,4.0.1", 0, 0, false},
	}
	for _, c := range cases {
		if up, down, ok := impl.SureSnail(puzzle(c.text)); up != c.up || down != c.down || ok != c.ok {
			t.Errorf("SureSnail %q: got %d, %d, %v", c.text, up, down, ok)
		}
	}
}

func TestNeedlessClues(t *testing.T) {
	cases := []struct {
		text string
		want []int
	}{
		{"", []int{}},
		{"2.0.5,0.10.8", []int{0}},
		{"0.10.8,2.0.5", []int{1}},
		{"4.0.-2,3.9.1", []int{}},
		{"2.0.1", []int{}},
		// A clue alone that all hidden snails fit.
		{"0.1.1", []int{0}},
		{"0.1.1,2.0.1,0.1.1", []int{0, 2}},
		// Each one alone is needless, but not both.
		{"2.0.1,2.0.1", []int{0, 1}},
		{"2.0.5,4.0.1,0.10.8", []int{0, 1, 2}},
		{"3.2.1,3.3.1,3.4.1", []int{0}},
		{"3.2.0,3.3.1,4.0.-3,2.0.9", []int{0, 1}},
		{"3.2.1,3.3.1,2.0.6", []int{}},
		{"0.40.0,4.0.-3,3.2.0,3.5.1", []int{0, 2}},
		{"2.0.9,4.0.-1,0.7.0", []int{2}},
		// Without solutions a clue is needless if there are none without it either.
		{"2.0.0,2.0.24", []int{1}},
		{"2.0.0,4.0.-12", []int{0, 1}},
		{"2.0.5,0.10.0,4.0.1", []int{0}},
		{"2.0.0", []int{}},
		{sixClues, []int{0, 1, 2, 3, 4, 5}},
	}
	for _, c := range cases {
		needless, ok := impl.NeedlessClues(puzzle(c.text))
		wantNumbers(t, "NeedlessClues "+c.text, needless, ok, c.want)
	}
}

func TestDropClue(t *testing.T) {
	cases := []struct {
		text string
		k    int
		want string
	}{
		{"2.0.5,0.10.8", 0, "0.10.8"},
		{"2.0.5,0.10.8", 1, "2.0.5"},
		{"2.0.5,0.10.8", 2, noPuzzle},
		{"2.0.5,0.10.8", -1, noPuzzle},
		{"2.0.5,0.10.8", math.MaxInt, noPuzzle},
		{"2.0.5,0.10.8", math.MinInt, noPuzzle},
		{"2.0.5", 0, ""},
		{"2.0.5", 1, noPuzzle},
		{"", 0, noPuzzle},
		{"", -1, noPuzzle},
		{"2.0.1,2.0.1,2.0.2", 1, "2.0.1,2.0.2"},
		{sixClues, 0, "3.6.1,4.0.0,2.0.24,1.2.12,0.12.1"},
		{sixClues, 3, "3.4.1,3.6.1,4.0.0,1.2.12,0.12.1"},
		{sixClues, 5, "3.4.1,3.6.1,4.0.0,2.0.24,1.2.12"},
		{sixClues, 6, noPuzzle},
	}
	for _, c := range cases {
		p, ok := impl.DropClue(puzzle(c.text), c.k)
		wantPuzzle(t, "DropClue "+c.text+" "+strconv.Itoa(c.k), p, ok, c.want)
	}
}

func TestAddClue(t *testing.T) {
	cases := []struct {
		text, clue, want string
	}{
		{"2.0.5", "0.10.8", "2.0.5,0.10.8"},
		{"", "4.0.-12", "4.0.-12"},
		{"2.0.5", "2.0.5", "2.0.5,2.0.5"},
		{"2.0.5", "2.0.0", "2.0.5,2.0.0"},
		{"3.4.1,3.6.1,4.0.0,2.0.24,1.2.12", "0.12.1", sixClues},
		// There are MaxClues.
		{sixClues, "0.12.1", noPuzzle},
		{sixClues, "0.0.1", noPuzzle},
		{sixClues + ",0.12.1", "0.12.1", noPuzzle},
		{"2.0.25", "0.12.1", noPuzzle},
	}
	for _, c := range cases {
		p, ok := impl.AddClue(puzzle(c.text), clues(c.clue)[0])
		wantPuzzle(t, "AddClue "+c.text+" "+c.clue, p, ok, c.want)
	}
	for _, c := range edgeClues {
		if p, ok := impl.AddClue(puzzle("2.0.5"), c); !ok || !slices.Equal(p.Clues, append(clues("2.0.5"), c)) {
			t.Errorf("AddClue %v: got %v, %v", c, p, ok)
		}
	}
	for _, bad := range badClues {
		for _, text := range []string{"", "2.0.5", "2.0.0"} {
			p, ok := impl.AddClue(puzzle(text), bad)
			wantPuzzle(t, "AddClue", p, ok, noPuzzle)
		}
	}
}

func TestLeftByClues(t *testing.T) {
	cases := []struct {
		text string
		want []int
	}{
		{"2.0.5,0.10.8", []int{156, 5, 1}},
		{"0.10.8,2.0.5", []int{156, 1, 1}},
		{"", []int{156}},
		{"2.0.0", []int{156, 0}},
		{"2.0.0,2.0.24", []int{156, 0, 0}},
		{"2.0.5,0.10.0,4.0.1", []int{156, 5, 2, 0}},
		{"3.2.0,3.3.1,4.0.-3,2.0.9", []int{156, 78, 26, 2, 1}},
		{"0.40.0,4.0.-3,3.2.0,3.5.1", []int{156, 78, 9, 5, 1}},
		{sixClues, []int{156, 39, 13, 1, 1, 1, 1}},
	}
	for _, c := range cases {
		left, ok := impl.LeftByClues(puzzle(c.text))
		wantNumbers(t, "LeftByClues "+c.text, left, ok, c.want)
	}
}

func TestBestClue(t *testing.T) {
	cases := []struct {
		text string
		want int
	}{
		{"2.0.5,0.10.8", 1},
		{"0.10.8,2.0.5", 0},
		{"2.0.5", 0},
		{"0.1.1", 0},
		{"2.0.0", 0},
		{"", fails},
		// The first one of several.
		{"2.0.1,2.0.1", 0},
		{"3.9.1,3.7.1,3.8.1", 0},
		{"3.2.1,3.9.1,3.7.1", 1},
		{"3.2.0,3.2.1", 0},
		{"4.0.1,2.0.24,2.0.1,0.10.8", 1},
		// None at all is fewer than one.
		{"2.0.1,3.2.0,4.0.-12,2.0.0", 2},
		// Those before it play no part: all are gone by the first one here.
		{"3.2.1,3.3.1,2.0.6", 2},
		{sixClues, 3},
		{"0.1.1,0.1.1,0.1.1,0.1.1,0.1.1,3.9.0", 5},
	}
	for _, c := range cases {
		n, ok := impl.BestClue(puzzle(c.text))
		wantInt(t, "BestClue "+c.text, n, ok, c.want)
	}
}

func TestHarderPuzzle(t *testing.T) {
	cases := []struct {
		text, want string
	}{
		{"2.0.5,0.10.8", "0.10.8"},
		{"0.10.8,2.0.5", "0.10.8"},
		{"4.0.-2,3.9.1", "4.0.-2,3.9.1"},
		{"2.0.1", "2.0.1"},
		// The first one is taken out first, also where this keeps several others in.
		{"0.10.8,2.0.5,4.0.1", "2.0.5,4.0.1"},
		{"2.0.5,4.0.1,0.10.8", "0.10.8"},
		{"2.0.5,0.10.8,4.0.1", "0.10.8"},
		// Of two clues that are the same the last one stays.
		{"2.0.1,2.0.1", "2.0.1"},
		{"3.9.1,4.0.-2,3.9.1", "4.0.-2,3.9.1"},
		{"0.1.1,2.0.1,0.1.1", "2.0.1"},
		// Both are needless, but not together.
		{"3.2.0,3.3.1,4.0.-3,2.0.9", "4.0.-3,2.0.9"},
		{"3.2.1,3.3.1,2.0.6", "3.2.1,3.3.1,2.0.6"},
		{"0.40.0,4.0.-3,3.2.0,3.5.1", "4.0.-3,3.5.1"},
		{"2.0.9,4.0.-1,0.7.0", "2.0.9,4.0.-1"},
		// All but one are taken out.
		{"2.0.1,2.0.1,2.0.1,2.0.1,2.0.1,2.0.1", "2.0.1"},
		{"2.0.1,2.0.1,2.0.1,2.0.1,2.0.1,4.0.1", "2.0.1"},
		{"2.0.24,3.4.1,3.6.1,4.0.0,1.2.12,0.12.1", "1.2.12,0.12.1"},
		{"3.4.1,3.6.1,4.0.0,1.2.12,0.12.1,2.0.24", "2.0.24"},
		{sixClues, "1.2.12,0.12.1"},
		// It is not solved: there are several solutions, or none.
		{"", noPuzzle},
		{"2.0.5", noPuzzle},
		{"0.1.1", noPuzzle},
		{"2.0.0", noPuzzle},
		{"2.0.0,2.0.24", noPuzzle},
		{"3.2.1,3.3.1,2.0.12", noPuzzle},
		{"2.0.5,0.10.0,4.0.1", noPuzzle},
	}
	for _, c := range cases {
		p, ok := impl.HarderPuzzle(puzzle(c.text))
		wantPuzzle(t, "HarderPuzzle "+c.text, p, ok, c.want)
	}
}

func TestMakePuzzle(t *testing.T) {
	cases := []struct {
		s           impl.Snail
		count, seed int
		want        string
	}{
		{snail(3, 2), 6, 0, "2.0.5,3.9.0,0.54.52,3.5.0,1.41.43,3.5.0"},
		{snail(3, 2), 2, 0, "2.0.5,3.9.0"},
		{snail(3, 2), 1, 0, "2.0.5"},
		{snail(3, 2), 0, 0, ""},
		{snail(3, 2), 0, 9999, ""},
		{snail(3, 2), 6, 1, "4.0.1,3.5.0,0.14.12,2.0.5,0.96.94,2.0.5"},
		{snail(3, 2), 6, 2027, "4.0.1,4.0.1,3.6.0,2.0.5,0.24.22,0.60.58"},
		{snail(3, 2), 6, 9999, "1.97.99,1.20.22,2.0.5,2.0.5,1.87.89,1.75.77"},
		{snail(1, 0), 6, 0, "2.0.1,3.9.0,0.54.54,3.5.0,1.41.41,3.5.0"},
		{snail(12, 12), 6, 0, "2.0.24,3.9.0,0.54.0,3.5.0,1.41.12,3.5.0"},
		{snail(12, 12), 6, 2027, "4.0.0,4.0.0,3.6.1,2.0.24,0.24.0,0.60.0"},
		{snail(12, 0), 6, 9999, "1.97.100,1.20.100,2.0.12,2.0.12,1.87.100,1.75.100"},
		{snail(1, 12), 6, 1, "4.0.-11,3.5.0,0.14.0,2.0.13,0.96.0,2.0.13"},
		{snail(9, 11), 3, 0, "2.0.20,3.9.1,0.54.0"},
		{snail(3, 2), 7, 0, noPuzzle},
		{snail(3, 2), -1, 0, noPuzzle},
		{snail(3, 2), math.MaxInt, 0, noPuzzle},
		{snail(3, 2), math.MinInt, 0, noPuzzle},
		{snail(3, 2), 6, -1, noPuzzle},
		{snail(3, 2), 6, 10000, noPuzzle},
		{snail(3, 2), 0, 10000, noPuzzle},
		{snail(3, 2), 6, math.MaxInt, noPuzzle},
		{snail(3, 2), 6, math.MinInt, noPuzzle},
		{snail(0, 2), 6, 0, noPuzzle},
		{snail(13, 2), 6, 0, noPuzzle},
		{snail(3, 13), 6, 0, noPuzzle},
		{snail(3, -1), 6, 0, noPuzzle},
		{snail(13, 2), 0, 0, noPuzzle},
		{snail(math.MaxInt, math.MaxInt), 6, 0, noPuzzle},
		{snail(math.MinInt, math.MinInt), 6, 0, noPuzzle},
	}
	for _, c := range cases {
		p, ok := impl.MakePuzzle(c.s, c.count, c.seed)
		wantPuzzle(t, "MakePuzzle", p, ok, c.want)
	}
}

func TestPuzzleText(t *testing.T) {
	for _, text := range []string{"", "2.0.5,0.10.8", "4.0.-2,3.9.1", "2.0.1", "4.0.-12", "4.0.12", "0.100.100,1.100.100,0.1.0,1.1.1", sixClues,
		"2.0.0,2.0.0,2.0.0,2.0.0,2.0.0,2.0.0"} {
		if got, ok := impl.PuzzleText(puzzle(text)); !ok || got != text {
			t.Errorf("PuzzleText %q: got %q, %v", text, got, ok)
		}
		p, ok := impl.ParsePuzzle(text)
		wantPuzzle(t, "ParsePuzzle", p, ok, text)
	}
	for _, c := range edgeClues {
		one := impl.Puzzle{Clues: []impl.Clue{c}}
		text, ok := impl.PuzzleText(one)
		if want := strconv.Itoa(c.Kind) + "." + strconv.Itoa(c.A) + "." + strconv.Itoa(c.B); !ok || text != want {
			t.Errorf("PuzzleText %v: got %q, %v", c, text, ok)
		}
		p, ok := impl.ParsePuzzle(text)
		wantPuzzle(t, "ParsePuzzle", p, ok, text)
	}
}

func TestParsePuzzleOfNoText(t *testing.T) {
	texts := []string{",", ".", "..", ",,", "..,..", " ", "\n", "\x00", "2", "2.0", "2.0.", "2..5", ".0.5", "2.0.5,", ",2.0.5", "2.0.5,,0.10.8", "2.0.5,0", "2.0.5,0.10",
		"2.0.5.", ".2.0.5", "2.0.5.0", "2.0.5,0.10.8.", "2.0.5;0.10.8", "2.0.5 0.10.8", "2.0.5, 0.10.8", "2.0.5 ,0.10.8", " 2.0.5", "2.0.5 ", "2. 0.5", "2.0.5\n", "2.0.5\x00",
		"2,0,5", "2:0:5", "2-0-5", "2.0,5", "+2.0.5", "2.+0.5", "2.0.+5", "-2.0.5", "2.-0.5", "2.0.-0", "4.0.-0", "4.0.+1", "4.0.--1", "4.-0.1", "-0.10.8", "02.0.5", "2.00.5", "2.0.05",
		"4.0.-01", "0.010.8", "00.10.8", "2.0.5,0.10.08", "2.0.5e0", "2.0.0x5", "0x2.0.5", "1_0.0.5", "0.1_0.8", "a.b.c", "2.0.x", "\xff.0.5", "２.0.5", "2。0.5", "2.0.５",
		"2.0.18446744073709551621", "18446744073709551618.0.5", "2.18446744073709551616.5", "2.0.9223372036854775808", "4.0.-9223372036854775809",
		"2.0.5,2.0.5,2.0.5,2.0.5,2.0.5,2.0.5,2.0.5", "2.0.5,2.0.5,2.0.5,2.0.5,2.0.5,2.0.5,", strings.Repeat("9", 10000) + ".0.5", "2.0." + strings.Repeat("0", 10000) + "5",
		strings.Repeat(".", 100000), strings.Repeat(",", 100000), strings.Repeat("2.0.5,", 100000), strings.Repeat("2.0.5", 10000)}
	for _, c := range badClues {
		text := strconv.Itoa(c.Kind) + "." + strconv.Itoa(c.A) + "." + strconv.Itoa(c.B)
		texts = append(texts, text, "2.0.5,"+text, text+",2.0.5")
	}
	for _, text := range texts {
		if p, ok := impl.ParsePuzzle(text); ok || p.Clues != nil {
			t.Errorf("ParsePuzzle %.40q: got %v, %v", text, p, ok)
		}
	}
}

// TestQuestionsOfNoPuzzle holds each function to failing, and to returning nothing, if a clue is none or if there are too many.
func TestQuestionsOfNoPuzzle(t *testing.T) {
	for _, p := range noPuzzles() {
		list, ok := impl.Solutions(p)
		wantSnails(t, "Solutions", list, ok, nil)
		n, ok := impl.CountSolutions(p)
		wantInt(t, "CountSolutions", n, ok, fails)
		if s, ok := impl.FirstSolution(p); ok || s != snail(0, 0) {
			t.Errorf("FirstSolution %.9v: got %v, %v", p, s, ok)
		}
		up, down, ok := impl.SureSnail(p)
		wantPair(t, "SureSnail", up, down, ok, noPair)
		if is, ok := impl.IsSolved(p); is || ok {
			t.Errorf("IsSolved %.9v: got %v, %v", p, is, ok)
		}
		needless, ok := impl.NeedlessClues(p)
		wantNumbers(t, "NeedlessClues", needless, ok, nil)
		for k := range min(len(p.Clues), 7) {
			q, ok := impl.DropClue(p, k)
			wantPuzzle(t, "DropClue", q, ok, noPuzzle)
		}
		q, ok := impl.AddClue(p, clue(2, 0, 5))
		wantPuzzle(t, "AddClue", q, ok, noPuzzle)
		left, ok := impl.LeftByClues(p)
		wantNumbers(t, "LeftByClues", left, ok, nil)
		n, ok = impl.BestClue(p)
		wantInt(t, "BestClue", n, ok, fails)
		q, ok = impl.HarderPuzzle(p)
		wantPuzzle(t, "HarderPuzzle", q, ok, noPuzzle)
		if text, ok := impl.PuzzleText(p); ok || text != "" {
			t.Errorf("PuzzleText %.9v: got %q, %v", p, text, ok)
		}
	}
}
