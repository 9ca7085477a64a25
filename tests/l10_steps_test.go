package tests

import (
	"fmt"
	"maps"
	"regexp"
	"slices"
	"strconv"
	"strings"
	"testing"

	"loop.example/g01335/impl"
)

// clerk keeps a desk by the calls that lines name, to hold the console against.
type clerk struct {
	desk impl.Desk
}

// asked is the words of a line, the text as it is.
type asked struct {
	text    string
	numbers []int
}

// lineForms are the lines of the chapter's table, each with what the clerk does.
var lineForms = map[string]func(c *clerk, a asked) (string, bool){
	"walkers W":  (*clerk).setWalkers,
	"ring N":     (*clerk).setRing,
	"turn N":     (*clerk).turn,
	"add W":      (*clerk).add,
	"drop N":     (*clerk).drop,
	"show":       func(c *clerk, a asked) (string, bool) { return impl.WalkersText(c.desk.Walkers) },
	"meet N K":   ofWalkers(func(around int, w, v impl.Walker) (int, int, bool) { return impl.MeetingTime(w, v) }),
	"where N K":  ofWalkers(func(around int, w, v impl.Walker) (int, int, bool) { return impl.MeetingPlace(w, v) }),
	"around N K": ofWalkers(impl.RingTime),
	"gap N K":    ofWalkers(impl.RingGap),
	"places N K": (*clerk).places,
	"pairs":      (*clerk).pairs,
	"first":      (*clerk).first,
	"lead":       func(c *clerk, a asked) (string, bool) { return numbersTold(impl.LeadersOf(c.desk.Walkers)) },
	"last":       func(c *clerk, a asked) (string, bool) { return numbersTold(impl.LastOrder(c.desk.Walkers)) },
	"at N": func(c *clerk, a asked) (string, bool) {
		return numbersTold(impl.WalkersAt(c.desk.Walkers, a.numbers[0], 1))
	},
	"start": func(c *clerk, a asked) (string, bool) {
		return fractionTold(impl.AllAtStart(c.desk.Around, c.desk.Walkers))
	},
	"dog C": ofText(impl.ParseChase, func(c impl.Chase, n []int) (int, int, bool) { return impl.TimeToMeet(c) }),
	"run C": ofText(impl.ParseChase, func(c impl.Chase, n []int) (int, int, bool) { return impl.DogDistance(c) }),
	"apart C N": ofText(impl.ParseChase, func(c impl.Chase, n []int) (int, int, bool) {
		return impl.ApartAfterTurn(c, n[0])
	}),
	"mean L": ofText(impl.ParseLegs, func(l []impl.Leg, n []int) (int, int, bool) { return impl.MeanSpeed(l) }),
	"time L": ofText(impl.ParseLegs, func(l []impl.Leg, n []int) (int, int, bool) { return impl.TimeOfLegs(l) }),
	"need L N K": ofText(impl.ParseLegs, func(l []impl.Leg, n []int) (int, int, bool) {
		return impl.NeededSpeed(l, n[0], n[1])
	}),
	"visits V": visitsTold,
	"guides V": guidesTold,
	"chance N K M": func(c *clerk, a asked) (string, bool) {
		return fractionTold(impl.ChanceTogether(a.numbers[0], a.numbers[1], a.numbers[2]))
	},
}

func fractionTold(num int, den int, ok bool) (string, bool) {
	return fmt.Sprintf("%d/%d", num, den), ok
}

func numbersTold(list []int, ok bool) (string, bool) {
	text := strings.Trim(strings.ReplaceAll(fmt.Sprint(list), " ", ","), "[]")
	if text == "" {
		text = "-"
	}
	return text, ok
}

func ofWalkers(ask func(around int, w, v impl.Walker) (int, int, bool)) func(c *clerk, a asked) (string, bool) {
	return func(c *clerk, a asked) (string, bool) {
		n, k, count := a.numbers[0], a.numbers[1], len(c.desk.Walkers)
		if n >= count || k >= count {
			return "", false
		}
		return fractionTold(ask(c.desk.Around, c.desk.Walkers[n], c.desk.Walkers[k]))
	}
}

func ofText[T any](parse func(string) (T, bool), ask func(one T, numbers []int) (int, int, bool)) func(c *clerk, a asked) (string, bool) {
	return func(c *clerk, a asked) (string, bool) {
		one, _ := parse(a.text)
		return fractionTold(ask(one, a.numbers))
	}
}

func visitsTold(c *clerk, a asked) (string, bool) {
	list, _ := impl.ParseVisits(a.text)
	pairs, ok := impl.PairsMeeting(list)
	var texts []string
	for _, pair := range pairs {
		texts = append(texts, fmt.Sprintf("%d,%d", pair[0], pair[1]))
	}
	if len(texts) == 0 {
		return "-", ok
	}
	return strings.Join(texts, " "), ok
}

func guidesTold(c *clerk, a asked) (string, bool) {
	list, _ := impl.ParseVisits(a.text)
	return numbersTold(impl.FewestGuides(list))
}

func (c *clerk) places(a asked) (string, bool) {
	n, k, count := a.numbers[0], a.numbers[1], len(c.desk.Walkers)
	if n >= count || k >= count {
		return "", false
	}
	rows, ok := impl.RingPlaces(c.desk.Around, c.desk.Walkers[n], c.desk.Walkers[k])
	text := ""
	for _, row := range rows {
		text += fmt.Sprintf(",%d/%d", row[0], row[1])
	}
	return strings.TrimPrefix(text, ","), ok
}

func (c *clerk) pairs(a asked) (string, bool) {
	n, ok := impl.CountMeetings(c.desk.Walkers)
	return strconv.Itoa(n), ok
}

func (c *clerk) first(a asked) (string, bool) {
	rows, ok := impl.AllMeetings(c.desk.Walkers)
	if len(rows) == 0 {
		return "", false
	}
	return numbersTold(rows[0][:2], ok)
}

func (c *clerk) setWalkers(a asked) (string, bool) {
	c.desk.Walkers, _ = impl.ParseWalkers(a.text)
	return a.text, true
}

func (c *clerk) setRing(a asked) (string, bool) {
	if a.numbers[0] < 1 || a.numbers[0] > 1000 {
		return "", false
	}
	c.desk.Around = a.numbers[0]
	return impl.WalkersText(c.desk.Walkers)
}

func (c *clerk) turn(a asked) (string, bool) {
	others := slices.Clone(c.desk.Walkers)
	for k := range others {
		if k == a.numbers[0] {
			others[k].Speed *= -1
			c.desk.Walkers = others
			return impl.WalkersText(others)
		}
	}
	return "", false
}

func (c *clerk) add(a asked) (string, bool) {
	more, _ := impl.ParseWalkers(a.text)
	if len(c.desk.Walkers)+len(more) > 8 {
		return "", false
	}
	before, _ := impl.WalkersText(c.desk.Walkers)
	c.desk.Walkers = slices.Concat(c.desk.Walkers, more)
	return before + "," + a.text, true
}

func (c *clerk) drop(a asked) (string, bool) {
	if a.numbers[0] >= len(c.desk.Walkers) || len(c.desk.Walkers) == 1 {
		return "", false
	}
	var others []impl.Walker
	for k, w := range c.desk.Walkers {
		if k != a.numbers[0] {
			others = append(others, w)
		}
	}
	c.desk.Walkers = others
	return impl.WalkersText(others)
}

var wordOfDigits = regexp.MustCompile(`^(0|[1-9][0-9]{0,5})$`)

// isWord reports whether a word is one by the letter that stands for it in the table.
func isWord(letter string, word string) bool {
	ok := false
	switch letter {
	case "W":
		_, ok = impl.ParseWalkers(word)
	case "C":
		_, ok = impl.ParseChase(word)
	case "L":
		_, ok = impl.ParseLegs(word)
	case "V":
		_, ok = impl.ParseVisits(word)
	default:
		ok = wordOfDigits.MatchString(word)
	}
	return ok
}

// reads reports whether a line has a form, and what its words are.
func reads(form string, line string) (asked, bool) {
	letters, words := strings.Split(form, " "), strings.Split(line, " ")
	a := asked{}
	if len(letters) != len(words) || letters[0] != words[0] {
		return a, false
	}
	for k, word := range words {
		switch {
		case k == 0:
		case !isWord(letters[k], word):
			return a, false
		case strings.Contains("NKM", letters[k]):
			n, _ := strconv.Atoi(word)
			a.numbers = append(a.numbers, n)
		default:
			a.text = word
		}
	}
	return a, true
}

func (c *clerk) reply(line string) string {
	for form, do := range lineForms {
		if a, ok := reads(form, line); ok {
			if text, ok := do(c, a); ok {
				return text
			}
			return "no"
		}
	}
	return "what"
}

// word draws a word by its letter, most often one that fits.
func (d *drawer) word(letter string) string {
	if d.draw(0, 19) == 0 {
		return []string{"", "x", "01", "-1", "1000000", "0:3,", "9:9", "60-2-4-4", "60/0", "0+3", "3", "+3"}[d.draw(0, 11)]
	}
	text := ""
	switch letter {
	case "W":
		text, _ = impl.WalkersText(d.walkers(d.draw(0, 30), d.draw(0, 5))[:1])
		if d.draw(0, 1) == 0 {
			text, _ = impl.WalkersText(d.walkers(1000, 100))
		}
	case "C":
		left := d.draw(0, 9)
		text, _ = impl.ChaseText(chase(d.draw(1, 1000), left, d.draw(1, 9), d.draw(10, 20)))
	case "L":
		text, _ = impl.LegsText(d.legs(d.draw(1, 1000), 100))
	case "V":
		text, _ = impl.VisitsText(d.visits(d.draw(0, 200), d.draw(0, 30)))
	default:
		text = strconv.Itoa(d.draw(0, []int{1, 2, 2, 2, 3, 8, 100, 999, 999999}[d.draw(0, 8)]))
	}
	return text
}

// wordsOf draws a line by one of the forms, seldom with a word more or less.
func (d *drawer) wordsOf(forms []string) string {
	words := strings.Split(forms[d.draw(0, len(forms)-1)], " ")
	for k := 1; k < len(words); k++ {
		words[k] = d.word(words[k])
	}
	switch d.draw(0, 39) {
	case 0:
		words = append(words, d.word("N"))
	case 1:
		words = words[:len(words)-1]
	}
	return strings.Join(words, " ")
}

// script draws a script of at most so many lines.
func (d *drawer) script(forms []string, most int) []string {
	list := make([]string, d.draw(0, most))
	for k := range list {
		list[k] = d.wordsOf(forms)
	}
	return list
}

// TestScriptsAgainstClerk draws scripts, and looks that each line of the table was answered, refused and misread.
func TestScriptsAgainstClerk(t *testing.T) {
	forms, d := slices.Sorted(maps.Keys(lineForms)), drawer{z: 53}
	replies := map[string]map[string]int{}
	for range 3000 {
		lines := d.script(forms, 50)
		// Such texts as there are seldom make a script too long.
		for len(script(lines...)) > impl.MaxScript {
			lines = lines[:len(lines)-1]
		}
		for k, reply := range checkAgainstClerk(t, lines) {
			name, _, _ := strings.Cut(lines[k], " ")
			if replies[name] == nil {
				replies[name] = map[string]int{}
			}
			if reply != "no" && reply != "what" {
				reply = "answers"
			}
			replies[name][reply]++
		}
	}
	canFail := strings.Fields("ring turn add drop meet where first around gap places start apart need chance")
	for _, form := range forms {
		name, _, _ := strings.Cut(form, " ")
		got := replies[name]
		if got["answers"] < 100 || got["what"] < 20 || slices.Contains(canFail, name) != (got["no"] > 0) {
			t.Errorf("%s was drawn too seldom: %v", form, got)
		}
	}
}

// checkAgainstClerk returns the replies.
func checkAgainstClerk(t *testing.T, lines []string) []string {
	t.Helper()
	c := clerk{desk: desk(10, 0, 3, 10, -2)}
	replies, failed := []string{}, []int{}
	before := impl.FirstDesk()
	for k, line := range lines {
		reply := c.reply(line)
		replies = append(replies, reply)
		if reply == "no" || reply == "what" {
			failed = append(failed, k+1)
		}
		next, got, ok := impl.DeskLine(before, line)
		if !ok || got != reply || !sameDesk(next, c.desk) {
			t.Errorf("DeskLine %v %q: got %v, %q, %v, not %v, %q", before, line, next, got, ok, c.desk, reply)
		}
		before = next
	}
	checkScript(t, script(lines...), replies, failed, c.desk)
	return replies
}

// TestLinesOfAllWords puts each word behind each name, alone and with each other one.
func TestLinesOfAllWords(t *testing.T) {
	words := []string{"", "0", "1", "2", "3", "6", "7", "10", "60", "101", "1000", "1001", "999999", "1000000", "00", "-1", "+1", "x",
		"0:0", "1:-1", "0:0,0:0,0:0,0:0,0:0,0:0", "60-2-4-6", "60-2-4-4", "60/30", "60/0", "0+3", "8+1,9+1", "0+201"}
	for form := range lineForms {
		name, _, _ := strings.Cut(form, " ")
		checkLineAgainstClerk(t, name)
		for _, one := range words {
			checkLineAgainstClerk(t, name+" "+one)
			for _, two := range words {
				checkLineAgainstClerk(t, name+" "+one+" "+two)
				for _, three := range words {
					checkLineAgainstClerk(t, name+" "+one+" "+two+" "+three)
				}
			}
		}
	}
}

func checkLineAgainstClerk(t *testing.T, line string) {
	t.Helper()
	c := clerk{desk: deskOfThree}
	reply := c.reply(line)
	next, got, ok := impl.DeskLine(deskOfThree, line)
	if !ok || got != reply || !sameDesk(next, c.desk) {
		t.Errorf("DeskLine %q: got %v, %q, %v, not %v, %q", line, next, got, ok, c.desk, reply)
	}
}
