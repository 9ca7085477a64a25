package tests

import "loop.example/g01335/impl"

// walk is a snail that is moved day by day, as the document tells it, to hold the answers of chapter 1 against.
type walk struct {
	wall     int
	mornings []int
	evenings []int
	top      int
}

// noTop is a wall that no snail of these tests comes up.
const noTop = 1 << 40

func walkDays(up int, slips []int, wall int, days int) walk {
	w := walk{wall: wall}
	height := 0
	for day := 1; day <= days; day++ {
		w.mornings = append(w.mornings, height)
		if w.top == 0 {
			height += up
			if height >= wall {
				height = wall
				w.top = day
			}
		}
		w.evenings = append(w.evenings, height)
		if w.top == 0 {
			height -= slips[(day-1)%len(slips)]
			if height < 0 {
				height = 0
			}
		}
	}
	return w
}

func walkSnail(s impl.Snail, wall int, days int) walk {
	return walkDays(s.Up, []int{s.Down}, wall, days)
}

// dayOf is the first day at the end of which it is at least so high, 0 if there is none.
func (w walk) dayOf(height int) int {
	for k, h := range w.evenings {
		if h >= height {
			return k + 1
		}
	}
	return 0
}

// passed counts the days on which it is below a height in the morning, and not in the evening.
func (w walk) passed(height int) int {
	count := 0
	for k := range w.evenings {
		if w.mornings[k] < height && w.evenings[k] >= height {
			count++
		}
	}
	return count
}

func (w walk) highest() int {
	most := 0
	for _, h := range w.evenings {
		most = max(most, h)
	}
	return most
}

// changesOfLead counts over the evenings until the first of both is at the top; it is -1 if none is.
func changesOfLead(v walk, w walk) int {
	leader, changes := 0, 0
	for k := range v.evenings {
		now := 0
		if v.evenings[k] > w.evenings[k] {
			now = 1
		} else if v.evenings[k] < w.evenings[k] {
			now = 2
		}
		if now != 0 {
			if leader != 0 && leader != now {
				changes++
			}
			leader = now
		}
		if v.evenings[k] == v.wall || w.evenings[k] == w.wall {
			return changes
		}
	}
	return -1
}
