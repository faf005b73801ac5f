package impl

// MaxTicket is the largest ticket.
const MaxTicket = 1000

// MaxLine is the largest number of tickets of a line.
const MaxLine = 12

// Line is a line of tickets.
type Line struct {
	Served int
	Next   int
	Gone   []int
}

// ValidLine reports whether a line of tickets is valid.
func ValidLine(l Line) bool {
	if l.Served < 0 || l.Served > MaxTicket {
		return false
	}
	// The bounds come before the difference, which could overflow without them.
	if l.Next < l.Served || l.Next > MaxTicket || l.Next-l.Served > MaxLine {
		return false
	}
	return ascendingWithin(l.Gone, l.Served, l.Next-1)
}

// TakeTicket returns a line after a ticket was taken.
func TakeTicket(l Line) (Line, int, bool) {
	if !ValidLine(l) || l.Next == MaxTicket || l.Next-l.Served == MaxLine {
		return Line{}, -1, false
	}
	return Line{Served: l.Served, Next: l.Next + 1, Gone: numbersFrom(l.Gone, l.Served)}, l.Next, true
}

// WaitingTickets returns the tickets that wait.
func WaitingTickets(l Line) []int {
	if !ValidLine(l) {
		return nil
	}
	var waiting []int
	for ticket := l.Served; ticket < l.Next; ticket++ {
		if placeOf(l.Gone, ticket) == -1 {
			waiting = append(waiting, ticket)
		}
	}
	return waiting
}

// LeaveLine returns a line after somebody has left.
func LeaveLine(l Line, ticket int) (Line, bool) {
	if PlaceInLine(l, ticket) == -1 {
		return Line{}, false
	}
	gone := insertNumber(l.Gone, ticket)
	served := l.Served
	// Nobody calls the tickets at the front that have left, so Served passes over them.
	for served < l.Next && placeOf(gone, served) != -1 {
		served++
	}
	return Line{Served: served, Next: l.Next, Gone: numbersFrom(gone, served)}, true
}

// CallNext returns a line after the next ticket was called.
func CallNext(l Line) (Line, int, bool) {
	waiting := WaitingTickets(l)
	if len(waiting) == 0 {
		return Line{}, -1, false
	}
	ticket := waiting[0]
	served := ticket + 1
	return Line{Served: served, Next: l.Next, Gone: numbersFrom(l.Gone, served)}, ticket, true
}

// PlaceInLine returns how many tickets are called before a ticket.
func PlaceInLine(l Line, ticket int) int {
	return placeOf(WaitingTickets(l), ticket)
}

// ascendingWithin reports whether numbers are ascending and in least..most.
func ascendingWithin(list []int, least int, most int) bool {
	for i, n := range list {
		if n < least || n > most {
			return false
		}
		if i > 0 && n <= list[i-1] {
			return false
		}
	}
	return true
}

// placeOf returns the first place of a number in a list, -1 if it is not there.
func placeOf(list []int, number int) int {
	for i, n := range list {
		if n == number {
			return i
		}
	}
	return -1
}

// insertNumber returns an ascending list with a further number at its place.
func insertNumber(list []int, number int) []int {
	var out []int
	for _, n := range list {
		if n < number {
			out = append(out, n)
		}
	}
	out = append(out, number)
	for _, n := range list {
		if n > number {
			out = append(out, n)
		}
	}
	return out
}

// numbersFrom returns a copy of the numbers of a list that are at least a number.
func numbersFrom(list []int, least int) []int {
	var out []int
	for _, n := range list {
		if n >= least {
			out = append(out, n)
		}
	}
	return out
}
