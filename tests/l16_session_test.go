package tests

import (
	"testing"

	"loop.example/connectionpool/impl"
)

// order is a line of a session as a test makes it: a command, its number, and the line.
type order struct {
	name   string
	number int
	line   string
}

// orderOf returns the order with a number that is not negative, or with a word that is no number for other ones.
func orderOf(name string, number int) order {
	if number < 0 {
		return order{name: name, number: -1, line: name + " x"}
	}
	return order{name: name, number: number, line: name + " " + decimal(number)}
}

// poolQuestion returns the order that asks for the text of the pool.
func poolQuestion() order {
	return order{name: "pool", line: "pool"}
}

// nonsense returns the order with a line that is no command.
func nonsense(line string) order {
	return order{name: "what", line: line}
}

// linesOf returns the lines of orders.
func linesOf(orders []order) []string {
	var out []string
	for _, x := range orders {
		out = append(out, x.line)
	}
	return out
}

// sessionOf returns the orders whose places in a list are given.
func sessionOf(orders []order, places []int) []order {
	var out []order
	for _, place := range places {
		out = append(out, orders[place])
	}
	return out
}

// answerByHand returns a pool after an order, and the answer, as the document tells it.
func answerByHand(p impl.Pool, x order) (impl.Pool, string) {
	switch x.name {
	case "pool":
		return p, poolText(p)
	case "held":
		var conns []int
		for _, h := range p.Held {
			if h.Owner == x.number {
				conns = append(conns, h.Conn)
			}
		}
		return p, listByHand(conns)
	case "size":
		if next := (impl.Pool{Max: x.number, Idle: p.Idle, Held: p.Held, Wait: p.Wait}); impl.ValidPool(next) {
			return next, "ok"
		}
		return p, "no"
	case "close":
		return closeByHand(p, x.number)
	case "acquire":
		return acquireByHand(p, x.number)
	case "release":
		return releaseByHand(p, x.number)
	}
	return p, "what"
}

// closeByHand returns a pool after a number of idle connections were closed, and the answer.
func closeByHand(p impl.Pool, many int) (impl.Pool, string) {
	if many < 0 {
		return p, "no"
	}
	if many > len(p.Idle) {
		many = len(p.Idle)
	}
	return impl.Pool{Max: p.Max, Idle: copyOf(p.Idle[many:]), Held: p.Held, Wait: p.Wait}, decimal(many)
}

// acquireByHand returns a pool after an owner has asked for a connection, and the answer.
func acquireByHand(p impl.Pool, owner int) (impl.Pool, string) {
	if owner < 0 || owner >= 5 {
		return p, "no"
	}
	conn, idle := acquiredByHand(p)
	if conn != -1 {
		return impl.Pool{Max: p.Max, Idle: idle, Held: holdsBut(p.Held, conn, impl.Hold{Conn: conn, Owner: owner})}, decimal(conn)
	}
	if len(p.Wait) == 12 {
		return p, "no"
	}
	return withWait(p, copyOf(p.Wait, owner)), "wait"
}

// releaseByHand returns a pool after a connection was given back, and the answer.
func releaseByHand(p impl.Pool, conn int) (impl.Pool, string) {
	if !holdsOf(p.Held, conn) {
		return p, "no"
	}
	if len(p.Wait) == 0 {
		return impl.Pool{Max: p.Max, Idle: copyOf(p.Idle, conn), Held: holdsBut(p.Held, conn)}, "idle"
	}
	owner := p.Wait[0]
	held := holdsBut(p.Held, conn, impl.Hold{Conn: conn, Owner: owner})
	return impl.Pool{Max: p.Max, Idle: p.Idle, Held: held, Wait: copyOf(p.Wait[1:])}, "to " + decimal(owner)
}

// outputByHand returns the output of a session, and its pool at the end.
func outputByHand(orders []order) (string, impl.Pool) {
	p := impl.Pool{Max: 2}
	out := ""
	for i, x := range orders {
		if i == 20 {
			break
		}
		next, answer := answerByHand(p, x)
		p = next
		out += answer + "\n"
	}
	return out, p
}

// someOrders returns orders with numbers at the ends of the limits, and one line that is no command.
func someOrders() []order {
	return []order{
		orderOf("acquire", 0), orderOf("acquire", 4), orderOf("acquire", 5), orderOf("release", 0), orderOf("release", 1), orderOf("close", 0), orderOf("close", 1),
		orderOf("size", 1), orderOf("size", 3), orderOf("held", 0), poolQuestion(), nonsense("help"),
	}
}

// allOrders returns orders with all commands and numbers, more of those with which much happens.
func allOrders() []order {
	var out []order
	for number := -1; number <= 7; number++ {
		for _, name := range []string{"acquire", "acquire", "release", "close", "size", "held"} {
			out = append(out, orderOf(name, number))
		}
	}
	for owner := 0; owner < 5; owner++ {
		out = append(out, orderOf("acquire", owner), orderOf("acquire", owner), orderOf("release", owner), poolQuestion())
	}
	return append(out, orderOf("close", 9999), orderOf("size", 9999), nonsense(""), nonsense("pool 1"))
}

// mixedSession returns many orders that a pattern tells.
func mixedSession(pattern int, many int) []order {
	all := allOrders()
	var out []order
	number := pattern*7919 + 17
	for len(out) < many {
		number = (number*1103 + 12345) % 104729
		out = append(out, all[number/7%len(all)])
	}
	return out
}

// busySession returns orders that make many owners wait before a pattern tells more of them.
func busySession(pattern int, asks int) []order {
	var out []order
	for i := 0; i < asks; i++ {
		out = append(out, orderOf("acquire", (i*pattern+i/3)%5))
	}
	return append(out, mixedSession(pattern, 20-asks)...)
}

// manySessions returns sessions: short ones of all kinds, long ones, and ones with more than MaxLines lines.
func manySessions() [][]order {
	var out [][]order
	for _, places := range shortKinds([]int{0, 1, 2, 3, 4, 5, 6, 7, 8, 9, 10, 11}, 3) {
		out = append(out, sessionOf(someOrders(), places))
	}
	for _, places := range shortKinds([]int{0, 1, 3, 4, 6, 8}, 5) {
		out = append(out, sessionOf(someOrders(), places))
	}
	for pattern := 0; pattern < 500; pattern++ {
		out = append(out, mixedSession(pattern, 20), busySession(pattern, pattern%17))
	}
	for pattern := 0; pattern < 20; pattern++ {
		out = append(out, mixedSession(pattern, 21), mixedSession(pattern, 40))
	}
	return out
}

// shortSessions returns those of manySessions with at most so many lines.
func shortSessions(most int) [][]order {
	var out [][]order
	for _, orders := range manySessions() {
		if len(orders) > most {
			orders = orders[:most]
		}
		out = append(out, orders)
	}
	return out
}

// almostCommands returns lines that are almost commands, but none.
func almostCommands() []string {
	out := []string{
		"", " ", "  ", "   ", "\n", "\t", "\x00", "0", "1", "-1", "what", "no", "ok", "wait", "help", "N", " 1", "1 acquire", "2 ||", "acquire,1", "pool,", "pool:1", "acquire=1",
		"pool ", " pool", "pool  ", "pool 1", "pool x", "pool pool", "pool\n", "pool\t", "pool\x00", "Pool", "POOL", "poo", "pools", "pol", "pool.", "\"pool\"", "acquire pool 1",
	}
	for _, name := range []string{"acquire", "release", "close", "size", "held"} {
		out = append(out, name, " "+name, name+"1", name+"  ", name+"  1", name+" 1 ", " "+name+" 1", "  "+name+" 1", name+" 1  ", name+" 1 2", name+" 1 x", name+"   1", name+" x y", name+"\t1", name+"\n1", name+"\n", name+"s 1", name[1:]+" 1", name[:len(name)-1]+" 1", "A"+name[1:]+" 1", name+"\x00 1", name+", 1", name+": 1", name+"\t 1", name+" "+name+" 1", "pool "+name+" 1")
		out = append(out, string(name[0]-'a'+'A')+name[1:]+" 1")
	}
	return out
}

// wordsThatAreNoNumbers returns words without spaces that count as -1.
func wordsThatAreNoNumbers() []string {
	return []string{
		"", "x", "N", "-1", "-0", "-", "+", "+1", "--1", "00", "01", "02", "000", "001", "0000", "0001", "00000", "00001", "10000", "10001", "99999", "12345", "100000", "1000000", "0x1", "1.", "1.0", ".1", "1,", "1,0", "1e0", "1_0", "1a", "a1", "1x1", "1:1", "1=1", "1|1",
		"\n", "1\n", "\n1", "1\t", "\t1", "1\r", "1\x00", "\x001", "\x00", "one", "18446744073709551616", "18446744073709551617", "4294967297", "9223372036854775808", "99999999999999999999999", "٠", "١", "１", "¹", "1/", "1;", "/", ":", "\xff", "1\xff", "acquire", "pool",
	}
}

// lineAt returns the line at a place of an output, which must have so many lines.
func lineAt(t *testing.T, out string, place int, many int) string {
	if countSigns(out, '\n') != many || many > 0 && out[len(out)-1] != '\n' {
		t.Fatalf("the output %q has not %d lines", out, many)
	}
	from := 0
	for i := 0; i < len(out); i++ {
		if out[i] != '\n' {
			continue
		}
		if place == 0 {
			return out[from:i]
		}
		place--
		from = i + 1
	}
	t.Fatalf("the output %q has no line %d", out, place)
	return ""
}

// lastLine returns the last line of the output of a session, which must have an answer for each line.
func lastLine(t *testing.T, lines []string) string {
	return lineAt(t, impl.RunSession(lines), len(lines)-1, len(lines))
}

// sameTexts reports whether two lists have the same texts in the same order.
func sameTexts(a []string, b []string) bool {
	if len(a) != len(b) {
		return false
	}
	for i := range a {
		if a[i] != b[i] {
			return false
		}
	}
	return true
}

// withLines returns a list with the same lines, and some more behind them.
func withLines(lines []string, more ...string) []string {
	return append(append([]string{}, lines...), more...)
}

func TestSessionConstants(t *testing.T) {
	if impl.MaxLines != 20 || impl.SessionMax != 2 {
		t.Errorf("MaxLines = %d, SessionMax = %d", impl.MaxLines, impl.SessionMax)
	}
}

func TestRunSessionByHand(t *testing.T) {
	for _, x := range []struct {
		lines []string
		want  string
	}{
		{nil, ""},
		{[]string{}, ""},
		{[]string{""}, "what\n"},
		{[]string{"pool"}, "2 ||\n"},
		{[]string{"held 0"}, "\n"},
		{[]string{"acquire 0", "pool"}, "0\n2 |0:0|\n"},
		{[]string{"acquire 4", "acquire 4", "held 4", "release 0", "held 4", "pool"}, "0\n1\n0,1\nidle\n1\n2 0|1:4|\n"},
		{[]string{"acquire 3", "release 0", "acquire 2", "release 0", "pool", "close 0", "close 1", "close 1", "pool"}, "0\nidle\n0\nidle\n2 0||\n0\n1\n0\n2 ||\n"},
		{[]string{"acquire 0", "acquire 0", "acquire 1", "acquire 2", "release 1", "release 0", "pool", "held 0", "held 1", "held 2"}, "0\n1\nwait\nwait\nto 1\nto 2\n2 |1:1,0:2|\n\n1\n0\n"},
		{[]string{"size 1", "acquire 0", "acquire 1", "size 2", "pool", "release 0", "size 2", "acquire 1", "held 1"}, "ok\n0\nwait\nno\n1 |0:0|1\nto 1\nok\n1\n0,1\n"},
		{[]string{"release 0", "release 1", "close 1", "close 1000", "pool"}, "no\nno\n0\n0\n2 ||\n"},
		{[]string{"size 6", "size 7", "size 0", "size 10", "pool"}, "ok\nno\nno\nno\n6 ||\n"},
		// The connection 1 alone is open, and is not below 1.
		{[]string{"acquire 0", "acquire 0", "release 0", "close 1", "size 1", "pool", "acquire 3"}, "0\n1\nidle\n1\nno\n2 |1:0|\n0\n"},
		// A released connection that is taken again is held behind the others, and so it is listed last.
		{[]string{"size 3", "acquire 1", "acquire 1", "acquire 1", "release 0", "acquire 1", "held 1", "pool"}, "ok\n0\n1\n2\nidle\n0\n1,2,0\n3 |1:1,2:1,0:1|\n"},
		// Of several idle connections the last one is taken, and the first ones are closed.
		{[]string{"size 3", "acquire 1", "acquire 2", "acquire 3", "release 2", "release 0", "release 1", "pool", "close 2", "acquire 4", "acquire 4", "pool"}, "ok\n0\n1\n2\nidle\nidle\nidle\n3 2,0,1||\n2\n1\n0\n3 |1:4,0:4|\n"},
	} {
		if out := impl.RunSession(x.lines); out != x.want {
			t.Errorf("RunSession of %q = %q, not %q", x.lines, out, x.want)
		}
	}
}

func TestSessionsStepByStep(t *testing.T) {
	for _, orders := range manySessions() {
		want, _ := outputByHand(orders)
		if out := impl.RunSession(linesOf(orders)); out != want {
			t.Fatalf("RunSession of %q = %q, not %q", linesOf(orders), out, want)
		}
	}
}

func TestAlmostCommandsAreNone(t *testing.T) {
	for _, line := range almostCommands() {
		lines := []string{line, "acquire 1", "acquire 2", line, "acquire 3", "release 0", line, "pool"}
		if out := impl.RunSession(lines); out != "what\n0\n1\nwhat\nwait\nto 3\nwhat\n2 |1:2,0:3|\n" {
			t.Errorf("RunSession of %q = %q", lines, out)
		}
	}
}

func TestOtherWordsCountAsNoNumbers(t *testing.T) {
	for _, word := range wordsThatAreNoNumbers() {
		for _, name := range []string{"acquire", "release", "close", "size", "held"} {
			lines := []string{"size 3", "acquire 1", "acquire 1", "release 1", name + " " + word, "pool"}
			answer := "no"
			if name == "held" {
				answer = ""
			}
			if out := impl.RunSession(lines); out != "ok\n0\n1\nidle\n"+answer+"\n3 1|0:1|\n" {
				t.Errorf("RunSession of %q = %q", lines, out)
			}
		}
		for _, name := range []string{"open", "pool", ""} {
			if out := impl.RunSession([]string{name + " " + word}); out != "what\n" {
				t.Errorf("RunSession of %q = %q", name+" "+word, out)
			}
		}
	}
}

func TestNumbersOfUpToFourDigits(t *testing.T) {
	for n := 0; n <= 11111; n++ {
		word := decimal(n)
		begin := []string{"size 3", "acquire 1", "acquire 1", "acquire 1", "release 0", "release 1"}
		lines := withLines(begin, "close "+word, "size "+word, "acquire "+word, "release "+word, "held "+word, "pool")
		number := n
		if n > 9999 {
			number = -1
		}
		orders := []order{orderOf("size", 3), orderOf("acquire", 1), orderOf("acquire", 1), orderOf("acquire", 1), orderOf("release", 0), orderOf("release", 1)}
		for _, name := range []string{"close", "size", "acquire", "release", "held", "pool"} {
			orders = append(orders, orderOf(name, number))
		}
		want, _ := outputByHand(orders)
		if out := impl.RunSession(lines); out != want {
			t.Fatalf("RunSession of %q = %q, not %q", lines, out, want)
		}
	}
}

func TestLongLines(t *testing.T) {
	many := 100000
	for _, sign := range []byte{' ', '0', '1', '9', 'x', '\n', '-'} {
		long := longText(sign, many)
		lines := []string{long, "acquire" + long, long + "acquire 1", "acquire " + long, "acquire 1" + long, "close " + long, "close 1" + long, "close 1 " + long, "pool" + long, "pool"}
		want := "what\nwhat\nwhat\nno\nno\nno\nno\nwhat\nwhat\n2 ||\n"
		if sign == ' ' {
			want = "what\nwhat\nwhat\nwhat\nwhat\nwhat\nwhat\nwhat\nwhat\n2 ||\n"
		}
		if out := impl.RunSession(lines); out != want {
			t.Errorf("RunSession of long lines of %q = %.100q", sign, out)
		}
	}
}

func TestOnlyTheFirstLinesAreExecuted(t *testing.T) {
	for _, many := range []int{0, 1, 19, 20, 21, 22, 40, 100000} {
		var lines []string
		for len(lines) < many {
			lines = append(lines, "pool")
		}
		want := ""
		for i := 0; i < many && i < 20; i++ {
			want += "2 ||\n"
		}
		if out := impl.RunSession(lines); out != want {
			t.Errorf("RunSession of %d lines = %.200q", many, out)
		}
	}
	// Lines behind the first ones are not executed even if the first ones are no commands.
	lines := make([]string, 21)
	lines[19], lines[20] = "acquire 1", "acquire 2"
	if out := impl.RunSession(lines); lineAt(t, out, 18, 20) != "what" || lineAt(t, out, 19, 20) != "0" {
		t.Errorf("RunSession of %q = %q", lines, out)
	}
}

func TestManyCanWait(t *testing.T) {
	var lines []string
	want := "0\n1\n"
	for i := 0; i < 2+impl.MaxLine; i++ {
		lines = append(lines, "acquire "+decimal(i%5))
		if i >= 2 {
			want += "wait\n"
		}
	}
	lines = withLines(lines, "acquire 4", "pool", "release 1", "acquire 4", "acquire 0", "pool")
	want += "no\n2 |0:0,1:1|2,3,4,0,1,2,3,4,0,1,2,3\nto 2\nwait\nno\n2 |0:0,1:2|3,4,0,1,2,3,4,0,1,2,3,4\n"
	if out := impl.RunSession(lines); out != want {
		t.Errorf("RunSession of %q = %q, not %q", lines, out, want)
	}
}

func TestP123SessionsRunLineByLine(t *testing.T) {
	for _, orders := range manySessions() {
		lines := linesOf(orders)
		all := impl.RunSession(lines)
		for first := 0; first <= len(lines); first++ {
			out := impl.RunSession(lines[:first])
			many := first
			if many > impl.MaxLines {
				many = impl.MaxLines
			}
			if !hasBeginning(all, out) || countSigns(out, '\n') != many {
				t.Fatalf("RunSession of %q = %q, and of the first %d %q", lines, all, first, out)
			}
		}
	}
}

func TestP124WhoWaitsGetsWhatIsGivenBack(t *testing.T) {
	for number := 0; number < 125; number++ {
		a, b, c := decimal(number%5), decimal(number/5%5), decimal(number/25)
		for conn, kept := range []string{"1:" + b, "0:" + a} {
			given := decimal(conn)
			lines := []string{"acquire " + a, "acquire " + b, "acquire " + c, "pool", "release " + given, "pool", "release " + given, "release " + given, "pool"}
			want := "0\n1\nwait\n2 |0:" + a + ",1:" + b + "|" + c + "\nto " + c + "\n2 |" + kept + "," + given + ":" + c + "|\nidle\nno\n2 " + given + "|" + kept + "|\n"
			if out := impl.RunSession(lines); out != want {
				t.Fatalf("RunSession of %q = %q, not %q", lines, out, want)
			}
		}
	}
}

func TestP125QuestionsChangeNothing(t *testing.T) {
	for _, orders := range shortSessions(6) {
		lines := withLines(linesOf(orders), "pool")
		out := impl.RunSession(lines)
		last := lineAt(t, out, len(orders), len(lines))
		_, p := outputByHand(orders)
		if last != poolText(p) {
			t.Fatalf("RunSession of %q ends with %q, not %q", lines, last, poolText(p))
		}
		for _, question := range []string{"pool", "held 0", "held 4", "held x", "held "} {
			var asked []string
			for _, line := range linesOf(orders) {
				asked = append(asked, line, question, "pool")
			}
			asked = append(asked, "pool")
			answers := impl.RunSession(asked)
			if lineAt(t, answers, len(asked)-1, len(asked)) != last {
				t.Fatalf("RunSession of %q = %q, and without questions %q", asked, answers, out)
			}
			for i := range orders {
				if lineAt(t, answers, 3*i, len(asked)) != lineAt(t, out, i, len(lines)) {
					t.Fatalf("RunSession of %q = %q, and without questions %q", asked, answers, out)
				}
			}
		}
	}
}

func TestWhereTheAnswerIsNoNothingChanges(t *testing.T) {
	refused := 0
	for _, orders := range shortSessions(6) {
		lines := linesOf(orders)
		before := lastLine(t, withLines(lines, "pool"))
		for _, line := range []string{"acquire 5", "acquire x", "release 6", "release 9999", "release ", "close -1", "size 0", "size 7", "size x", "size 1", "size 3", "size 6"} {
			asked := withLines(lines, line, "pool")
			out := impl.RunSession(asked)
			if lineAt(t, out, len(lines), len(asked)) != "no" {
				continue
			}
			refused++
			if after := lineAt(t, out, len(lines)+1, len(asked)); after != before {
				t.Fatalf("RunSession of %q = %q, and before %q the pool is %q", asked, out, line, before)
			}
		}
	}
	if refused == 0 {
		t.Error("the answer is never no")
	}
}

// openedLines returns the lines of a session that makes its pool so large, and opens so many connections, and their output.
func openedLines(most int, many int) ([]string, string) {
	lines := []string{"size " + decimal(most)}
	out := "ok\n"
	for conn := 0; conn < many; conn++ {
		lines = append(lines, "acquire "+decimal(conn%5))
		out += decimal(conn) + "\n"
	}
	return lines, out
}

func TestP173PoolsCanGrow(t *testing.T) {
	for most := 1; most <= impl.MaxConn; most++ {
		for more := most; more <= impl.MaxConn; more++ {
			lines, want := openedLines(most, most)
			lines = append(lines, "size "+decimal(more))
			want += "ok\n"
			for conn := most; conn < more; conn++ {
				lines = append(lines, "acquire 3")
				want += decimal(conn) + "\n"
			}
			lines = append(lines, "acquire 2", "acquire 4")
			want += "wait\nwait\n"
			if out := impl.RunSession(lines); out != want {
				t.Errorf("RunSession of %q = %q, not %q", lines, out, want)
			}
		}
	}
}

func TestP173PoolsAreNoSmallerThanWhatIsOpen(t *testing.T) {
	for many := 0; many <= impl.MaxConn; many++ {
		for idle := 0; idle <= many; idle++ {
			for size := 0; size <= impl.MaxConn+1; size++ {
				lines, want := openedLines(impl.MaxConn, many)
				// The greatest connections are idle, whichever are closed.
				for i := 0; i < idle; i++ {
					lines = append(lines, "release "+decimal(many-1-i))
					want += "idle\n"
				}
				answer := "ok"
				if size < 1 || size < many || size > impl.MaxConn {
					answer = "no"
				}
				lines = append(lines, "size "+decimal(size))
				want += answer + "\n"
				if out := impl.RunSession(lines); out != want {
					t.Errorf("RunSession of %q = %q, not %q", lines, out, want)
				}
			}
		}
	}
}

func TestP173PoolsCanBeSmallerWithoutWhatIsClosed(t *testing.T) {
	for closed := 0; closed <= impl.MaxConn; closed++ {
		for size := 0; size <= impl.MaxConn; size++ {
			lines, want := openedLines(impl.MaxConn, impl.MaxConn)
			for conn := impl.MaxConn - 1; conn >= 0; conn-- {
				lines = append(lines, "release "+decimal(conn))
				want += "idle\n"
			}
			lines = append(lines, "close "+decimal(closed), "size "+decimal(size))
			want += decimal(closed) + "\n"
			if size >= 1 && size >= impl.MaxConn-closed {
				want += "ok\n"
			} else {
				want += "no\n"
			}
			if out := impl.RunSession(lines); out != want {
				t.Errorf("RunSession of %q = %q, not %q", lines, out, want)
			}
		}
	}
}

func TestPoolsWithOwnersThatWaitKeepTheirSize(t *testing.T) {
	for size := 0; size <= impl.MaxConn+1; size++ {
		lines, want := openedLines(3, 3)
		lines = append(lines, "acquire 4", "size "+decimal(size), "pool")
		want += "wait\n"
		if size == 3 {
			want += "ok\n"
		} else {
			want += "no\n"
		}
		want += "3 |0:0,1:1,2:2|4\n"
		if out := impl.RunSession(lines); out != want {
			t.Errorf("RunSession of %q = %q, not %q", lines, out, want)
		}
	}
}

func TestSessionsLeaveTheLinesAsTheyAre(t *testing.T) {
	for _, orders := range manySessions() {
		lines := linesOf(orders)
		out := impl.RunSession(lines)
		if !sameTexts(lines, linesOf(orders)) {
			t.Fatalf("RunSession makes %q of %q", lines, linesOf(orders))
		}
		// A session keeps nothing for the next one.
		if again := impl.RunSession(lines); again != out {
			t.Fatalf("RunSession of %q the second time = %q, not %q", lines, again, out)
		}
	}
}
