package tests

import (
	"testing"

	"loop.example/connectionpool/impl"
)

// lineWith returns a line of some width in which the tickets with a bit in the mask are gone.
func lineWith(served int, width int, mask int) impl.Line {
	l := impl.Line{Served: served, Next: served + width}
	for i := 0; i < width; i++ {
		if mask>>i&1 == 1 {
			l.Gone = append(l.Gone, served+i)
		}
	}
	return l
}

// manyLines returns valid lines: short ones with any gone tickets, and longer ones with some.
func manyLines() []impl.Line {
	var out []impl.Line
	for _, served := range []int{0, 1, 9, 500, 987, 988, 989, 996, 999, 1000} {
		for width := 0; width <= impl.MaxLine && served+width <= impl.MaxTicket; width++ {
			step := 1
			if width > 5 {
				step = 1<<(width-5) - 1
			}
			for mask := 0; mask < 1<<width; mask += step {
				out = append(out, lineWith(served, width, mask))
			}
		}
	}
	return out
}

// wrongLines returns lines that are not valid.
func wrongLines() []impl.Line {
	return []impl.Line{
		{Served: -1, Next: 0},
		{Served: -1, Next: -1},
		{Served: 1001, Next: 1001},
		{Served: 1000, Next: 1001},
		{Served: 995, Next: 1001},
		{Served: 5, Next: 4},
		{Served: 0, Next: 13},
		{Served: 100, Next: 113},
		{Served: minInt, Next: 0},
		{Served: minInt, Next: maxInt},
		{Served: 0, Next: maxInt},
		{Served: 0, Next: minInt},
		{Served: maxInt, Next: minInt},
		{Served: 5, Next: 5, Gone: []int{5}},
		{Served: 5, Next: 5, Gone: []int{4}},
		{Served: 5, Next: 8, Gone: []int{4}},
		{Served: 5, Next: 8, Gone: []int{8}},
		{Served: 5, Next: 8, Gone: []int{6, 8}},
		{Served: 5, Next: 8, Gone: []int{6, 6}},
		{Served: 5, Next: 8, Gone: []int{7, 6}},
		{Served: 5, Next: 8, Gone: []int{5, 7, 6}},
		{Served: 5, Next: 8, Gone: []int{minInt}},
		{Served: 0, Next: 8, Gone: []int{-1, 2}},
		{Served: 0, Next: 2, Gone: make([]int, 100000)},
	}
}

// waitingIn returns the tickets of a valid line that wait, as the document defines them.
func waitingIn(l impl.Line) []int {
	var out []int
	for n := 0; n <= impl.MaxTicket; n++ {
		if n >= l.Served && n < l.Next && !hasNumber(l.Gone, n) {
			out = append(out, n)
		}
	}
	return out
}

// sameLine reports whether two lines are the same.
func sameLine(a impl.Line, b impl.Line) bool {
	return a.Served == b.Served && a.Next == b.Next && sameNumbers(a.Gone, b.Gone)
}

// isZeroLine reports whether a line is the zero value.
func isZeroLine(l impl.Line) bool {
	return sameLine(l, impl.Line{})
}

// oddTickets returns numbers that no line has as a waiting ticket, or hardly one.
func oddTickets() []int {
	return []int{minInt, -77, -1, 1001, maxInt}
}

func TestLineConstants(t *testing.T) {
	if impl.MaxTicket != 1000 || impl.MaxLine != 12 {
		t.Errorf("MaxTicket = %d, MaxLine = %d", impl.MaxTicket, impl.MaxLine)
	}
}

func TestValidLine(t *testing.T) {
	for _, l := range manyLines() {
		if !impl.ValidLine(l) {
			t.Fatalf("ValidLine of %v is false", l)
		}
	}
	for _, l := range wrongLines() {
		if impl.ValidLine(l) {
			t.Errorf("ValidLine of %d, %d, %d gone is true", l.Served, l.Next, len(l.Gone))
		}
	}
}

func TestWrongLinesHaveFixedResults(t *testing.T) {
	for _, l := range wrongLines() {
		if out, n, ok := impl.TakeTicket(l); ok || n != -1 || !isZeroLine(out) {
			t.Errorf("TakeTicket of %d, %d = %v, %d, %v", l.Served, l.Next, out, n, ok)
		}
		if out, n, ok := impl.CallNext(l); ok || n != -1 || !isZeroLine(out) {
			t.Errorf("CallNext of %d, %d = %v, %d, %v", l.Served, l.Next, out, n, ok)
		}
		if out := impl.WaitingTickets(l); len(out) != 0 {
			t.Errorf("WaitingTickets of %d, %d = %v", l.Served, l.Next, out)
		}
		for _, ticket := range append(oddTickets(), 0, 1, 5, 6, 7, 8, 100, 995, 1000) {
			if out, ok := impl.LeaveLine(l, ticket); ok || !isZeroLine(out) {
				t.Errorf("LeaveLine of %d, %d, %d = %v, %v", l.Served, l.Next, ticket, out, ok)
			}
			if place := impl.PlaceInLine(l, ticket); place != -1 {
				t.Errorf("PlaceInLine of %d, %d, %d = %d", l.Served, l.Next, ticket, place)
			}
		}
	}
}

func TestP1LinesWithoutGoneTicketsAreValid(t *testing.T) {
	for _, l := range manyLines() {
		if !impl.ValidLine(impl.Line{Served: l.Served, Next: l.Next}) {
			t.Fatalf("%v without Gone is not valid", l)
		}
		if !impl.ValidLine(impl.Line{Served: l.Served, Next: l.Next, Gone: []int{}}) {
			t.Fatalf("%v with an empty Gone is not valid", l)
		}
	}
}

func TestP2TakenTicketsWaitLast(t *testing.T) {
	taken := 0
	for _, l := range manyLines() {
		out, ticket, ok := impl.TakeTicket(l)
		if !ok {
			continue
		}
		taken++
		want := append(waitingIn(l), ticket)
		if ticket != l.Next || out.Served != l.Served || out.Next != l.Next+1 || !sameNumbers(out.Gone, l.Gone) {
			t.Fatalf("TakeTicket of %v = %v, %d", l, out, ticket)
		}
		if !impl.ValidLine(out) || !sameNumbers(impl.WaitingTickets(out), want) {
			t.Fatalf("after TakeTicket of %v %v wait, not %v", l, impl.WaitingTickets(out), want)
		}
	}
	if taken == 0 {
		t.Error("TakeTicket always fails")
	}
}

func TestP3WhoLeavesAtOnceHasNotWaited(t *testing.T) {
	for _, l := range manyLines() {
		out, ticket, ok := impl.TakeTicket(l)
		if !ok {
			continue
		}
		left, ok := impl.LeaveLine(out, ticket)
		if !ok || !sameNumbers(impl.WaitingTickets(left), waitingIn(l)) {
			t.Fatalf("LeaveLine after TakeTicket of %v = %v, %v", l, left, ok)
		}
	}
}

func TestP4WaitingTicketsWereNotCalled(t *testing.T) {
	for _, l := range manyLines() {
		waiting := impl.WaitingTickets(l)
		if !sameNumbers(waiting, waitingIn(l)) || !ascends(waiting) {
			t.Fatalf("WaitingTickets of %v = %v", l, waiting)
		}
		for n := l.Served; n < l.Next; n++ {
			if hasNumber(waiting, n) == hasNumber(l.Gone, n) {
				t.Fatalf("WaitingTickets of %v = %v, and %d is in both or none", l, waiting, n)
			}
		}
	}
}

// leaveByHand returns a valid line after a waiting ticket has left, as the document tells it.
func leaveByHand(l impl.Line, ticket int) impl.Line {
	out := impl.Line{Served: l.Served, Next: l.Next}
	for n := l.Served; n < l.Next; n++ {
		if n == ticket || hasNumber(l.Gone, n) {
			out.Gone = append(out.Gone, n)
		}
	}
	for hasNumber(out.Gone, out.Served) {
		out.Gone = withoutNumber(out.Gone, out.Served)
		out.Served++
	}
	return out
}

func TestP5WhoHasLeftDoesNotWait(t *testing.T) {
	for _, l := range manyLines() {
		for _, ticket := range waitingIn(l) {
			out, ok := impl.LeaveLine(l, ticket)
			if !ok || !impl.ValidLine(out) || !sameLine(out, leaveByHand(l, ticket)) {
				t.Fatalf("LeaveLine of %v, %d = %v, %v", l, ticket, out, ok)
			}
			if !sameNumbers(impl.WaitingTickets(out), withoutNumber(waitingIn(l), ticket)) {
				t.Fatalf("after LeaveLine of %v, %d %v wait", l, ticket, impl.WaitingTickets(out))
			}
			if again, ok := impl.LeaveLine(out, ticket); ok || !isZeroLine(again) {
				t.Fatalf("LeaveLine of %v, %d twice = %v, %v", l, ticket, again, ok)
			}
		}
	}
}

func TestLeaveLineFailsForTicketsThatDoNotWait(t *testing.T) {
	for _, l := range manyLines() {
		wrong := append(oddTickets(), l.Gone...)
		wrong = append(wrong, l.Served-1, l.Next, l.Next+1)
		for _, ticket := range wrong {
			if out, ok := impl.LeaveLine(l, ticket); ok || !isZeroLine(out) {
				t.Fatalf("LeaveLine of %v, %d = %v, %v", l, ticket, out, ok)
			}
		}
	}
}

func TestP6TicketsLeaveInAnyOrder(t *testing.T) {
	for _, l := range manyLines() {
		waiting := waitingIn(l)
		for i, a := range waiting {
			for _, b := range waiting[:i] {
				x, okX := impl.LeaveLine(l, a)
				y, okY := impl.LeaveLine(l, b)
				ab, okAB := impl.LeaveLine(x, b)
				ba, okBA := impl.LeaveLine(y, a)
				if !okX || !okY || !okAB || !okBA || !sameLine(ab, ba) {
					t.Fatalf("LeaveLine of %v, %d and %d = %v and %v", l, a, b, ab, ba)
				}
			}
		}
	}
}

// callByHand returns a valid line after its first waiting ticket was called, as the document tells it.
func callByHand(l impl.Line, ticket int) impl.Line {
	out := impl.Line{Served: ticket + 1, Next: l.Next}
	for _, n := range l.Gone {
		if n >= out.Served {
			out.Gone = append(out.Gone, n)
		}
	}
	return out
}

func TestP7TheFirstOneIsCalled(t *testing.T) {
	for _, l := range manyLines() {
		waiting := waitingIn(l)
		out, ticket, ok := impl.CallNext(l)
		if len(waiting) == 0 {
			if ok || ticket != -1 || !isZeroLine(out) {
				t.Fatalf("CallNext of %v = %v, %d, %v", l, out, ticket, ok)
			}
			continue
		}
		if !ok || ticket != waiting[0] || !impl.ValidLine(out) || !sameLine(out, callByHand(l, ticket)) {
			t.Fatalf("CallNext of %v = %v, %d, %v", l, out, ticket, ok)
		}
		if !sameNumbers(impl.WaitingTickets(out), waiting[1:]) {
			t.Fatalf("after CallNext of %v %v wait", l, impl.WaitingTickets(out))
		}
	}
}

func TestCallNextLeavesGoneTicketsBehindTheCalledOne(t *testing.T) {
	l := impl.Line{Served: 5, Next: 10, Gone: []int{5, 7, 8}}
	out, ticket, ok := impl.CallNext(l)
	if !ok || ticket != 6 || !sameLine(out, impl.Line{Served: 7, Next: 10, Gone: []int{7, 8}}) {
		t.Errorf("CallNext = %v, %d, %v", out, ticket, ok)
	}
}

func TestP8AllAreCalledInOrder(t *testing.T) {
	for _, l := range manyLines() {
		now := l
		for _, want := range waitingIn(l) {
			next, ticket, ok := impl.CallNext(now)
			if !ok || ticket != want {
				t.Fatalf("CallNext of %v in %v = %d, %v, not %d", now, l, ticket, ok, want)
			}
			now = next
		}
		if out, ticket, ok := impl.CallNext(now); ok || ticket != -1 || !isZeroLine(out) {
			t.Fatalf("CallNext of %v = %v, %d, %v", now, out, ticket, ok)
		}
	}
}

func TestP9PlacesCountThoseBefore(t *testing.T) {
	for _, l := range manyLines() {
		waiting := waitingIn(l)
		for place, ticket := range waiting {
			if impl.PlaceInLine(l, ticket) != place {
				t.Fatalf("PlaceInLine of %v, %d = %d", l, ticket, impl.PlaceInLine(l, ticket))
			}
		}
		wrong := append(oddTickets(), l.Gone...)
		wrong = append(wrong, l.Served-1, l.Next)
		for _, ticket := range wrong {
			if impl.PlaceInLine(l, ticket) != -1 {
				t.Fatalf("PlaceInLine of %v, %d = %d", l, ticket, impl.PlaceInLine(l, ticket))
			}
		}
	}
}

func TestP10CallsMoveEverybodyOn(t *testing.T) {
	for _, l := range manyLines() {
		out, called, ok := impl.CallNext(l)
		if !ok {
			continue
		}
		if impl.PlaceInLine(l, called) != 0 || impl.PlaceInLine(out, called) != -1 {
			t.Fatalf("CallNext of %v calls %d from the place %d", l, called, impl.PlaceInLine(l, called))
		}
		for _, ticket := range withoutNumber(waitingIn(l), called) {
			if impl.PlaceInLine(out, ticket) != impl.PlaceInLine(l, ticket)-1 {
				t.Fatalf("PlaceInLine of %d after CallNext of %v = %d", ticket, l, impl.PlaceInLine(out, ticket))
			}
		}
	}
}

func TestP126LinesAreFullAtLast(t *testing.T) {
	for _, l := range manyLines() {
		full := l.Next == impl.MaxTicket || l.Next-l.Served == impl.MaxLine
		out, ticket, ok := impl.TakeTicket(l)
		if ok == full {
			t.Fatalf("TakeTicket of %v = %v", l, ok)
		}
		if full && (ticket != -1 || !isZeroLine(out)) {
			t.Fatalf("TakeTicket of %v = %v, %d", l, out, ticket)
		}
	}
	if _, ticket, ok := impl.TakeTicket(impl.Line{Served: 999, Next: 999}); !ok || ticket != 999 {
		t.Errorf("TakeTicket of the last ticket = %d, %v", ticket, ok)
	}
	if _, ticket, ok := impl.TakeTicket(lineWith(3, 12, 1<<12-2)); ok || ticket != -1 {
		t.Errorf("TakeTicket of a line that is full of gone tickets = %d, %v", ticket, ok)
	}
}

func TestP127WaitingAndGoneTicketsAreAll(t *testing.T) {
	for _, l := range manyLines() {
		if len(impl.WaitingTickets(l)) != l.Next-l.Served-len(l.Gone) {
			t.Fatalf("WaitingTickets of %v = %v", l, impl.WaitingTickets(l))
		}
	}
}

func TestP128WhoHasLeftIsNotCalled(t *testing.T) {
	for _, l := range manyLines() {
		waiting := waitingIn(l)
		if len(waiting) == 0 {
			continue
		}
		left, ok := impl.LeaveLine(l, waiting[0])
		if !ok {
			t.Fatalf("LeaveLine of %v, %d fails", l, waiting[0])
		}
		_, ticket, ok := impl.CallNext(left)
		if len(waiting) == 1 && (ok || ticket != -1) {
			t.Fatalf("CallNext after LeaveLine of %v calls %d", l, ticket)
		}
		if len(waiting) > 1 && (!ok || ticket != waiting[1]) {
			t.Fatalf("CallNext after LeaveLine of %v calls %d", l, ticket)
		}
	}
}

func TestP129WhoLeavesMovesThoseAfterThemOn(t *testing.T) {
	for _, l := range manyLines() {
		for _, leaver := range waitingIn(l) {
			left, ok := impl.LeaveLine(l, leaver)
			if !ok {
				t.Fatalf("LeaveLine of %v, %d fails", l, leaver)
			}
			for _, ticket := range withoutNumber(waitingIn(l), leaver) {
				want := impl.PlaceInLine(l, ticket)
				if leaver < ticket {
					want--
				}
				if impl.PlaceInLine(left, ticket) != want {
					t.Fatalf("PlaceInLine of %d after LeaveLine of %v, %d = %d", ticket, l, leaver, impl.PlaceInLine(left, ticket))
				}
			}
		}
	}
}

func TestLinesShareNoMemory(t *testing.T) {
	given := []int{6, 8, 10}
	// What lies behind Gone is memory of the argument, too.
	memory := []int{6, 8, 10, 0, 0, 0}
	l := impl.Line{Served: 5, Next: 12, Gone: memory[:3]}
	taken, _, _ := impl.TakeTicket(l)
	left, _ := impl.LeaveLine(l, 11)
	called, _, _ := impl.CallNext(l)
	waiting := impl.WaitingTickets(l)
	impl.PlaceInLine(l, 9)
	if !sameNumbers(memory, []int{6, 8, 10, 0, 0, 0}) {
		t.Errorf("the argument was changed into %v", memory)
	}
	for i := range memory {
		memory[i] = -77
	}
	if !sameNumbers(taken.Gone, given) || !sameNumbers(called.Gone, given) || !sameNumbers(left.Gone, []int{6, 8, 10, 11}) || !sameNumbers(waiting, []int{5, 7, 9, 11}) {
		t.Errorf("results change with the argument: %v, %v, %v, %v", taken, called, left, waiting)
	}
}

func TestLineResultsHaveTheirOwnSpareMemory(t *testing.T) {
	memory := []int{6, 8, 10, 0, 0, 0}
	l := impl.Line{Served: 5, Next: 12, Gone: memory[:3]}
	taken, _, _ := impl.TakeTicket(l)
	called, _, _ := impl.CallNext(l)
	// An append writes into spare memory, and must not reach the argument.
	taken.Gone = append(taken.Gone, -77)
	called.Gone = append(called.Gone, -77)
	if !sameNumbers(memory, []int{6, 8, 10, 0, 0, 0}) {
		t.Errorf("the argument was changed into %v by %v or %v", memory, taken, called)
	}
}
