package tests

import (
	"slices"
	"testing"

	"loop.example/g01335/impl"
)

// guest is a hidden snail that has been moved day by day, and asked for each clue, to hold the answers of chapter 9 against.
type guest struct {
	impl.Snail
	// days has the day on which it comes to the top of a wall, and evenings how high it is, both by their numbers.
	days, evenings [101]int
}

func newGuest(s impl.Snail) guest {
	g := guest{Snail: s}
	for wall := 1; wall <= 100; wall++ {
		g.days[wall] = walkSnail(s, wall, 200).top
	}
	copy(g.evenings[1:], walkSnail(s, 100, 100).evenings)
	return g
}

// guests are all hidden snails, in the order of solutions.
func guests() []guest {
	var list []guest
	for up := 1; up <= 12; up++ {
		for down := range 13 {
			list = append(list, newGuest(snail(up, down)))
		}
	}
	return list
}

func (g guest) fits(c impl.Clue) bool {
	switch c.Kind {
	case 0:
		return g.days[c.A] == c.B
	case 1:
		return g.evenings[c.A] == c.B
	case 2:
		return c.B-g.Up == g.Down
	case 3:
		isMultiple := false
		for n := c.A; n <= 12; n += c.A {
			isMultiple = isMultiple || n == g.Up
		}
		return isMultiple == (c.B == 1)
	}
	return g.Down+c.B == g.Up
}

// kept returns the guests that fit all clues.
func kept(all []guest, list []impl.Clue) []impl.Snail {
	left := snails()
	for _, g := range all {
		if !slices.ContainsFunc(list, func(c impl.Clue) bool { return !g.fits(c) }) {
			left = append(left, g.Snail)
		}
	}
	return left
}

// clueRange is what A and B of clues of a kind are.
type clueRange struct {
	leastA, mostA, leastB, mostB int
}

var clueRanges = []clueRange{{1, 100, 0, 100}, {1, 100, 1, 100}, {0, 0, 0, 24}, {2, 9, 0, 1}, {0, 0, -12, 12}}

func TestAllCluesAgainstGuests(t *testing.T) {
	all := guests()
	for kind, r := range clueRanges {
		for a := r.leastA; a <= r.mostA; a++ {
			for b := r.leastB; b <= r.mostB; b++ {
				c := clue(kind, a, b)
				list, ok := impl.Solutions(impl.Puzzle{Clues: []impl.Clue{c}})
				wantSnails(t, "Solutions", list, ok, kept(all, []impl.Clue{c}))
			}
		}
	}
}

func TestGuestsFitClues(t *testing.T) {
	d := drawer{z: 41}
	for _, g := range guests() {
		for range 200 {
			c := d.clue()
			if d.draw(0, 2) > 0 {
				c = g.told(c)
			}
			if fits, ok := impl.DoesFit(c, g.Snail); fits != g.fits(c) || !ok {
				t.Errorf("DoesFit %v %v: got %v, %v", c, g.Snail, fits, ok)
			}
		}
	}
}

// clue draws any clue, which seldom fits a hidden snail.
func (d *drawer) clue() impl.Clue {
	kind := d.draw(0, 4)
	r := clueRanges[kind]
	return clue(kind, d.draw(r.leastA, r.mostA), d.draw(r.leastB, r.mostB))
}

// told tries all that a clue may tell until the guest fits it.
func (g guest) told(c impl.Clue) impl.Clue {
	r := clueRanges[c.Kind]
	for c.B = r.leastB; c.B <= r.mostB; c.B++ {
		if g.fits(c) {
			return c
		}
	}
	panic("nothing is true of a hidden snail")
}

// puzzle draws clues that a guest fits, often one of them twice, with some others between them if there are to be.
func (d *drawer) puzzle(g guest, others int) []impl.Clue {
	list := make([]impl.Clue, d.draw(0, 6))
	for k := range list {
		c := d.clue()
		switch {
		case d.draw(0, 99) < others:
			list[k] = c
		case k > 0 && d.draw(0, 3) == 0:
			list[k] = list[d.draw(0, k-1)]
		default:
			list[k] = g.told(c)
		}
	}
	return list
}

func TestPuzzlesAgainstGuests(t *testing.T) {
	all, d := guests(), drawer{z: 43}
	solved := 0
	for range 12 {
		for _, g := range all {
			for _, others := range []int{0, 10, 100} {
				list := d.puzzle(g, others)
				checkSolutions(t, all, list)
				checkClues(t, all, list)
				checkHarder(t, all, list)
				checkChanges(t, list, d.clue())
				if len(kept(all, list)) == 1 {
					solved++
				}
			}
		}
	}
	if solved < 500 {
		t.Errorf("just %d puzzles were solved", solved)
	}
}

func checkSolutions(t *testing.T, all []guest, list []impl.Clue) {
	t.Helper()
	p, want := impl.Puzzle{Clues: list}, kept(all, list)
	if !impl.IsPuzzle(p) {
		t.Fatalf("%v is a puzzle", list)
	}
	got, ok := impl.Solutions(p)
	wantSnails(t, "Solutions", got, ok, want)
	n, ok := impl.CountSolutions(p)
	wantInt(t, "CountSolutions", n, ok, len(want))
	is, ok := impl.IsSolved(p)
	if is != (len(want) == 1) || !ok {
		t.Errorf("IsSolved %v: got %v, %v", list, is, ok)
	}
	first, ok := impl.FirstSolution(p)
	up, down, sureOk := impl.SureSnail(p)
	if len(want) == 0 {
		if ok || sureOk || first != snail(0, 0) || up != 0 || down != 0 {
			t.Errorf("%v: got the first one %v, %v, and sure of %d, %d, %v", list, first, ok, up, down, sureOk)
		}
		return
	}
	if !ok || first != want[0] {
		t.Errorf("FirstSolution %v: got %v, %v", list, first, ok)
	}
	if !sureOk || up != onlyOne(want, func(s impl.Snail) int { return s.Up }) || down != onlyOne(want, func(s impl.Snail) int { return s.Down }) {
		t.Errorf("SureSnail %v: got %d, %d, %v", list, up, down, sureOk)
	}
}

// onlyOne returns a number of all snails, or -1 if it is not that of all.
func onlyOne(list []impl.Snail, numberOf func(impl.Snail) int) int {
	numbers := map[int]bool{}
	for _, s := range list {
		numbers[numberOf(s)] = true
	}
	if len(numbers) > 1 {
		return -1
	}
	return numberOf(list[0])
}

// chosen returns the clues of which the bits are set, those of the first ones being the greatest.
func chosen(list []impl.Clue, bits int) []impl.Clue {
	some := []impl.Clue{}
	for k, c := range list {
		if bits>>(len(list)-1-k)&1 == 1 {
			some = append(some, c)
		}
	}
	return some
}

func checkClues(t *testing.T, all []guest, list []impl.Clue) {
	t.Helper()
	p := impl.Puzzle{Clues: list}
	needless, left, every := []int{}, []int{len(all)}, 1<<len(list)-1
	best, fewest := fails, len(all)+1
	for k := range list {
		bit := 1 << (len(list) - 1 - k)
		if len(kept(all, chosen(list, every-bit))) == len(kept(all, list)) {
			needless = append(needless, k)
		}
		left = append(left, len(kept(all, list[:k+1])))
		if alone := len(kept(all, chosen(list, bit))); alone < fewest {
			best, fewest = k, alone
		}
	}
	got, ok := impl.NeedlessClues(p)
	wantNumbers(t, "NeedlessClues", got, ok, needless)
	got, ok = impl.LeftByClues(p)
	wantNumbers(t, "LeftByClues", got, ok, left)
	n, ok := impl.BestClue(p)
	wantInt(t, "BestClue", n, ok, best)
}

// checkHarder looks at all choices of clues, the one with the least bits first: to keep a clue in costs more than to keep in all that are behind it.
func checkHarder(t *testing.T, all []guest, list []impl.Clue) {
	t.Helper()
	solutions := kept(all, list)
	harder, ok := impl.HarderPuzzle(impl.Puzzle{Clues: list})
	if len(solutions) != 1 {
		wantPuzzle(t, "HarderPuzzle", harder, ok, noPuzzle)
		return
	}
	bits := 0
	for len(kept(all, chosen(list, bits))) != 1 {
		bits++
	}
	if !ok || !slices.Equal(harder.Clues, chosen(list, bits)) {
		t.Errorf("HarderPuzzle %v: got %v, %v, not %v", list, harder, ok, chosen(list, bits))
	}
	again, ok := impl.Solutions(harder)
	wantSnails(t, "Solutions of HarderPuzzle", again, ok, solutions)
}

func checkChanges(t *testing.T, list []impl.Clue, more impl.Clue) {
	t.Helper()
	p := impl.Puzzle{Clues: list}
	for k := range list {
		dropped, ok := impl.DropClue(p, k)
		if !ok || !slices.Equal(dropped.Clues, slices.Delete(slices.Clone(list), k, k+1)) {
			t.Errorf("DropClue %v %d: got %v, %v", list, k, dropped, ok)
		}
	}
	longer, ok := impl.AddClue(p, more)
	if ok != (len(list) < 6) || ok && !slices.Equal(longer.Clues, append(slices.Clone(list), more)) || !ok && longer.Clues != nil {
		t.Errorf("AddClue %v %v: got %v, %v", list, more, longer, ok)
	}
	text, ok := impl.PuzzleText(p)
	again, parsed := impl.ParsePuzzle(text)
	if !ok || !parsed || !slices.Equal(again.Clues, list) || !slices.Equal(clues(text), list) {
		t.Errorf("ParsePuzzle %q: got %v, %v, not %v", text, again, parsed, list)
	}
}

// madeClues makes clues of a guest by the document's rule: a kind by one number, and the next one for A.
func madeClues(g guest, count int, seed int) []impl.Clue {
	numbers := []int{seed}
	for len(numbers) <= 2*count {
		last := numbers[len(numbers)-1]
		numbers = append(numbers, (227*last+2027)%10007)
	}
	list := []impl.Clue{}
	for k := range count {
		c, y := clue(numbers[1+2*k]%5, 0, 0), numbers[2+2*k]
		switch c.Kind {
		case 0, 1:
			c.A = 1 + y%100
		case 3:
			c.A = 2 + y%8
		}
		list = append(list, g.told(c))
	}
	return list
}

func TestMadePuzzlesAgainstGuests(t *testing.T) {
	d := drawer{z: 47}
	for _, g := range guests() {
		for _, seed := range []int{0, 1, 9998, 9999, d.draw(2, 9997), d.draw(2, 9997), d.draw(2, 9997)} {
			for count := range 7 {
				p, ok := impl.MakePuzzle(g.Snail, count, seed)
				if !ok || !impl.IsPuzzle(p) || !slices.Equal(p.Clues, madeClues(g, count, seed)) {
					t.Errorf("MakePuzzle %v %d %d: got %v, %v", g.Snail, count, seed, p, ok)
				}
				list, ok := impl.Solutions(p)
				if !ok || !slices.Contains(list, g.Snail) {
					t.Errorf("MakePuzzle %v %d %d: %v have the solutions %v", g.Snail, count, seed, p, list)
				}
			}
		}
	}
}

// TestMadePuzzlesOfAllSeeds takes each seed once, for one hidden snail after another.
func TestMadePuzzlesOfAllSeeds(t *testing.T) {
	all := guests()
	for seed := range 10000 {
		g := all[seed%len(all)]
		p, ok := impl.MakePuzzle(g.Snail, 6, seed)
		if !ok || !slices.Equal(p.Clues, madeClues(g, 6, seed)) {
			t.Errorf("MakePuzzle %v 6 %d: got %v, %v", g.Snail, seed, p, ok)
		}
	}
}
