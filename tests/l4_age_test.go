package tests

import (
	"testing"

	"loop.example/connectionpool/impl"
)

// someAges returns ages at both ends of all limits, and between them.
func someAges() []impl.Age {
	return []impl.Age{
		{Born: 0, Used: 0},
		{Born: 0, Used: 80},
		{Born: 0, Used: 1000},
		{Born: 50, Used: 60},
		{Born: 499, Used: 500},
		{Born: 500, Used: 1000},
		{Born: 999, Used: 1000},
		{Born: 1000, Used: 1000},
	}
}

// manyAges returns valid lists of ages: all with at most 2, and some with up to MaxConn.
func manyAges() [][]impl.Age {
	some := someAges()
	out := [][]impl.Age{nil, {}}
	for i, x := range some {
		out = append(out, []impl.Age{x})
		for _, y := range some {
			out = append(out, []impl.Age{x, y})
		}
		for many := 3; many <= impl.MaxConn; many++ {
			for _, step := range []int{0, 1, 3} {
				var list []impl.Age
				for conn := 0; conn < many; conn++ {
					list = append(list, some[(i+conn*step)%len(some)])
				}
				out = append(out, list)
			}
		}
	}
	return out
}

// wrongAges returns lists of ages that are not valid.
func wrongAges() [][]impl.Age {
	good := impl.Age{Born: 5, Used: 7}
	out := [][]impl.Age{make([]impl.Age, 7), make([]impl.Age, 100000)}
	for _, x := range []impl.Age{
		{Born: -1, Used: 0},
		{Born: -1, Used: -1},
		{Born: 5, Used: 4},
		{Born: 1000, Used: 999},
		{Born: 1001, Used: 1001},
		{Born: 0, Used: 1001},
		{Born: 0, Used: -1},
		{Born: minInt, Used: 0},
		{Born: minInt, Used: maxInt},
		{Born: 0, Used: maxInt},
		{Born: maxInt, Used: minInt},
		{Born: maxInt, Used: maxInt},
	} {
		out = append(out, []impl.Age{x}, []impl.Age{good, x}, []impl.Age{x, good})
		out = append(out, []impl.Age{good, good, good, good, good, x})
	}
	return out
}

// someSpans returns lives and rests at both ends of their limits, and between them.
func someSpans() []int {
	return []int{1, 2, 5, 49, 50, 51, 100, 499, 500, 999, 1000}
}

// oddSpans returns numbers that are neither lives nor rests.
func oddSpans() []int {
	return []int{minInt, -1, 0, 1001, maxInt}
}

// lifeByHand returns the life of a connection, with the numbers of the document written out.
func lifeByHand(conn int, life int) int {
	parts := []int{0, 7, 4, 1, 8, 5}
	return life - life*parts[conn]/50
}

// endedByHand reports whether a connection is at an end at any time, as the document tells it.
func endedByHand(conn int, x impl.Age, now int, life int, rest int) bool {
	return now-x.Born >= lifeByHand(conn, life) || now-x.Used >= rest
}

// endsByHand returns the connections that are at an end at any time.
func endsByHand(list []impl.Age, now int, life int, rest int) []int {
	var out []int
	for conn, x := range list {
		if endedByHand(conn, x, now, life, rest) {
			out = append(out, conn)
		}
	}
	return out
}

// nextByHand returns the first time at which a connection is at an end, -1 if there is none.
func nextByHand(list []impl.Age, life int, rest int) int {
	for now := 0; now <= 2*impl.MaxClock; now++ {
		if len(endsByHand(list, now, life, rest)) > 0 {
			return now
		}
	}
	return -1
}

// isPart reports whether a list has all numbers of another one.
func isPart(part []int, list []int) bool {
	for _, n := range part {
		if !hasNumber(list, n) {
			return false
		}
	}
	return true
}

// sameAges reports whether two lists have the same ages in the same order.
func sameAges(a []impl.Age, b []impl.Age) bool {
	if len(a) != len(b) {
		return false
	}
	for i := range a {
		if a[i] != b[i] {
			return false
		}
	}
	return true
}

// timesAround returns the times in 0..MaxClock among some and those next to them.
func timesAround(some ...int) []int {
	var out []int
	for _, n := range some {
		for now := n - 1; now <= n+1; now++ {
			if now >= 0 && now <= impl.MaxClock {
				out = append(out, now)
			}
		}
	}
	return out
}

func TestAgeConstants(t *testing.T) {
	if impl.SpreadStep != 7 || impl.SpreadCycle != 10 || impl.SpreadParts != 5 {
		t.Error("SpreadStep, SpreadCycle or SpreadParts")
	}
}

func TestValidAges(t *testing.T) {
	for _, list := range manyAges() {
		if !impl.ValidAges(list) {
			t.Fatalf("ValidAges of %v is false", list)
		}
	}
	for _, list := range wrongAges() {
		if impl.ValidAges(list) {
			t.Errorf("ValidAges of %d ages, the first one %v, is true", len(list), list[0])
		}
	}
}

func TestWrongAgesHaveFixedResults(t *testing.T) {
	for _, list := range wrongAges() {
		if out := impl.EndedConns(list, 1000, 1, 1); len(out) != 0 {
			t.Errorf("EndedConns of %d wrong ages = %v", len(list), out)
		}
		if next := impl.NextEnd(list, 1, 1); next != -1 {
			t.Errorf("NextEnd of %d wrong ages = %d", len(list), next)
		}
		for conn := -1; conn <= impl.MaxConn; conn++ {
			if out, ok := impl.TouchConn(list, conn, 1000); ok || len(out) != 0 {
				t.Errorf("TouchConn of %d wrong ages, %d = %v, %v", len(list), conn, out, ok)
			}
		}
	}
}

func TestOddTimesHaveFixedResults(t *testing.T) {
	for _, list := range manyAges() {
		for _, now := range oddNumbers() {
			if out := impl.EndedConns(list, now, 1, 1); len(out) != 0 {
				t.Fatalf("EndedConns of %v at %d = %v", list, now, out)
			}
			if out, ok := impl.TouchConn(list, 0, now); ok || len(out) != 0 {
				t.Fatalf("TouchConn of %v at %d = %v, %v", list, now, out, ok)
			}
		}
		for _, span := range oddSpans() {
			if len(impl.EndedConns(list, 1000, span, 1)) != 0 || len(impl.EndedConns(list, 1000, 1, span)) != 0 {
				t.Fatalf("EndedConns of %v with %d is not empty", list, span)
			}
			if impl.NextEnd(list, span, 1) != -1 || impl.NextEnd(list, 1, span) != -1 {
				t.Fatalf("NextEnd of %v with %d is not -1", list, span)
			}
		}
	}
}

func TestP29ConnectionsCanBeLeftOut(t *testing.T) {
	for _, list := range manyAges() {
		if len(list) > 0 && !impl.ValidAges(list[:len(list)-1]) {
			t.Fatalf("%v without the last one is not valid", list)
		}
	}
}

func TestP30LivesDifferALittle(t *testing.T) {
	for life := 1; life <= impl.MaxClock; life++ {
		if impl.LifeOf(0, life) != life {
			t.Fatalf("LifeOf of 0, %d = %d", life, impl.LifeOf(0, life))
		}
		for conn := 0; conn < impl.MaxConn; conn++ {
			n := impl.LifeOf(conn, life)
			if n > life || 5*n < 4*life || n != lifeByHand(conn, life) {
				t.Fatalf("LifeOf of %d, %d = %d", conn, life, n)
			}
		}
	}
}

func TestLifeOfOtherArguments(t *testing.T) {
	for _, conn := range oddConns() {
		for _, life := range append(oddSpans(), 1, 100, 1000) {
			if impl.LifeOf(conn, life) != -1 {
				t.Errorf("LifeOf of %d, %d = %d", conn, life, impl.LifeOf(conn, life))
			}
		}
	}
	for conn := 0; conn < impl.MaxConn; conn++ {
		for _, life := range oddSpans() {
			if impl.LifeOf(conn, life) != -1 {
				t.Errorf("LifeOf of %d, %d = %d", conn, life, impl.LifeOf(conn, life))
			}
		}
	}
}

func TestP31LongerLivesAreLonger(t *testing.T) {
	for conn := 0; conn < impl.MaxConn; conn++ {
		for life := 1; life < impl.MaxClock; life++ {
			grows := impl.LifeOf(conn, life+1) - impl.LifeOf(conn, life)
			if grows < 0 || grows > 1 {
				t.Fatalf("LifeOf of %d grows by %d after %d", conn, grows, life)
			}
		}
	}
}

func TestP32OldConnectionsAreAtAnEnd(t *testing.T) {
	for _, list := range manyAges() {
		for _, life := range someSpans() {
			for _, rest := range someSpans() {
				for _, now := range timesAround(0, 49, 80, 500, 1000, nextByHand(list, life, rest)) {
					out := impl.EndedConns(list, now, life, rest)
					if !sameNumbers(out, endsByHand(list, now, life, rest)) || !ascends(out) {
						t.Fatalf("EndedConns of %v at %d with %d, %d = %v", list, now, life, rest, out)
					}
				}
			}
		}
	}
}

func TestConnectionsEndExactlyAtTheEdge(t *testing.T) {
	list := []impl.Age{{Born: 10, Used: 10}, {Born: 10, Used: 10}}
	// The second one lives for 100 - 100*7/50 = 86.
	for _, x := range []struct {
		now  int
		life int
		rest int
		want []int
	}{
		{95, 100, 1000, nil},
		{96, 100, 1000, []int{1}},
		{109, 100, 1000, []int{1}},
		{110, 100, 1000, []int{0, 1}},
		{29, 1000, 20, nil},
		{30, 1000, 20, []int{0, 1}},
		{9, 1, 1, nil},
		{10, 1, 1, nil},
		{11, 1, 1, []int{0, 1}},
		{0, 1, 1, nil},
	} {
		if out := impl.EndedConns(list, x.now, x.life, x.rest); !sameNumbers(out, x.want) {
			t.Errorf("EndedConns at %d with %d, %d = %v", x.now, x.life, x.rest, out)
		}
	}
}

func TestP33EndedConnectionsStayAtAnEnd(t *testing.T) {
	for _, list := range manyAges() {
		for _, life := range []int{1, 50, 100, 1000} {
			for _, rest := range []int{1, 20, 1000} {
				before := impl.EndedConns(list, 0, life, rest)
				for now := 7; now <= impl.MaxClock; now += 7 {
					later := impl.EndedConns(list, now, life, rest)
					if !isPart(before, later) {
						t.Fatalf("EndedConns of %v at %d with %d, %d = %v", list, now, life, rest, later)
					}
					before = later
				}
			}
		}
	}
}

func TestP34NothingEndsBefore(t *testing.T) {
	within, behind := 0, 0
	for _, list := range manyAges() {
		for _, life := range someSpans() {
			for _, rest := range someSpans() {
				next := impl.NextEnd(list, life, rest)
				if next != nextByHand(list, life, rest) {
					t.Fatalf("NextEnd of %v with %d, %d = %d", list, life, rest, next)
				}
				if next >= 1 && next <= impl.MaxClock+1 && len(impl.EndedConns(list, next-1, life, rest)) != 0 {
					t.Fatalf("EndedConns of %v before %d with %d, %d is not empty", list, next, life, rest)
				}
				if next > impl.MaxClock {
					behind++
				}
				if next >= 0 && next <= impl.MaxClock {
					within++
					if len(impl.EndedConns(list, next, life, rest)) == 0 {
						t.Fatalf("EndedConns of %v at %d with %d, %d is empty", list, next, life, rest)
					}
				}
			}
		}
	}
	if within == 0 || behind == 0 {
		t.Errorf("%d times are in 0..MaxClock, and %d greater", within, behind)
	}
}

func TestNextEndCanBeGreaterThanMaxClock(t *testing.T) {
	last := []impl.Age{{Born: 1000, Used: 1000}}
	if impl.NextEnd(last, 1000, 1000) != 2000 || impl.NextEnd(last, 1, 1000) != 1001 || impl.NextEnd(last, 1000, 1) != 1001 {
		t.Error("NextEnd of a connection that was born at MaxClock")
	}
}

func TestP35WithoutConnectionsNothingEnds(t *testing.T) {
	for _, list := range manyAges() {
		for _, life := range someSpans() {
			for _, rest := range someSpans() {
				next := impl.NextEnd(list, life, rest)
				if (next == -1) != (len(list) == 0) {
					t.Fatalf("NextEnd of %v with %d, %d = %d", list, life, rest, next)
				}
				if life < impl.MaxClock && impl.NextEnd(list, life+1, rest) < next {
					t.Fatalf("NextEnd of %v falls with the life after %d", list, life)
				}
				if rest < impl.MaxClock && impl.NextEnd(list, life, rest+1) < next {
					t.Fatalf("NextEnd of %v falls with the rest after %d", list, rest)
				}
			}
		}
	}
}

func TestP36UsedConnectionsRestLater(t *testing.T) {
	changed, kept := 0, 0
	for _, list := range manyAges() {
		for conn := range list {
			for _, now := range timesAround(0, 60, 80, 500, 999, 1000) {
				want := append([]impl.Age{}, list...)
				if now > want[conn].Used {
					want[conn].Used = now
					changed++
				} else {
					kept++
				}
				out, ok := impl.TouchConn(list, conn, now)
				if !ok || !sameAges(out, want) || !impl.ValidAges(out) {
					t.Fatalf("TouchConn of %v, %d, %d = %v, %v", list, conn, now, out, ok)
				}
			}
		}
		for _, conn := range append(oddConns(), len(list), len(list)+1) {
			if out, ok := impl.TouchConn(list, conn, 1000); ok || len(out) != 0 {
				t.Fatalf("TouchConn of %v, %d = %v, %v", list, conn, out, ok)
			}
		}
	}
	if changed == 0 || kept == 0 {
		t.Errorf("TouchConn changes %d, and keeps %d", changed, kept)
	}
}

func TestTouchConnBeforeItWasBorn(t *testing.T) {
	list := []impl.Age{{Born: 50, Used: 60}}
	for _, now := range []int{0, 49, 50, 59, 60} {
		if out, ok := impl.TouchConn(list, 0, now); !ok || !sameAges(out, list) {
			t.Errorf("TouchConn at %d = %v, %v", now, out, ok)
		}
	}
}

func TestP37TouchingDelaysTheEnd(t *testing.T) {
	for _, list := range manyAges() {
		for conn := range list {
			for _, now := range []int{0, 61, 500, 1000} {
				out, ok := impl.TouchConn(list, conn, now)
				if !ok {
					t.Fatalf("TouchConn of %v, %d, %d fails", list, conn, now)
				}
				for _, life := range someSpans() {
					for _, rest := range []int{1, 20, 500, 1000} {
						if impl.NextEnd(out, life, rest) < impl.NextEnd(list, life, rest) {
							t.Fatalf("NextEnd after TouchConn of %v, %d, %d = %d", list, conn, now, impl.NextEnd(out, life, rest))
						}
					}
				}
			}
		}
	}
}

func TestP140ConnectionsCanBeUnused(t *testing.T) {
	for _, list := range manyAges() {
		var unused []impl.Age
		for _, x := range list {
			unused = append(unused, impl.Age{Born: x.Born, Used: x.Born})
		}
		if !impl.ValidAges(unused) {
			t.Fatalf("%v is not valid", unused)
		}
	}
}

func TestP141LongerLivesAndRestsEndFewer(t *testing.T) {
	for _, list := range manyAges() {
		for _, now := range timesAround(0, 100, 500, 1000) {
			for _, life := range someSpans() {
				for _, rest := range someSpans() {
					all := impl.EndedConns(list, now, life, rest)
					if life < impl.MaxClock && !isPart(impl.EndedConns(list, now, life+1, rest), all) {
						t.Fatalf("EndedConns of %v at %d has more with a life after %d", list, now, life)
					}
					if rest < impl.MaxClock && !isPart(impl.EndedConns(list, now, life, rest+1), all) {
						t.Fatalf("EndedConns of %v at %d has more with a rest after %d", list, now, rest)
					}
				}
			}
		}
	}
}

func TestP142FreshConnectionsLiveLongest(t *testing.T) {
	for _, born := range []int{0, 1, 500, 999, 1000} {
		list := []impl.Age{{Born: born, Used: born}}
		for _, life := range someSpans() {
			for _, rest := range someSpans() {
				want := born + life
				if rest < life {
					want = born + rest
				}
				if impl.NextEnd(list, life, rest) != want {
					t.Fatalf("NextEnd of %v with %d, %d = %d", list, life, rest, impl.NextEnd(list, life, rest))
				}
			}
		}
	}
}

func TestAgesShareNoMemory(t *testing.T) {
	given := []impl.Age{{Born: 0, Used: 5}, {Born: 3, Used: 9}}
	// What lies behind the list is memory of the argument, too.
	memory := []impl.Age{{Born: 0, Used: 5}, {Born: 3, Used: 9}, {Born: 1, Used: 1}}
	for _, now := range []int{0, 500} {
		out, ok := impl.TouchConn(memory[:2], 1, now)
		if !ok || len(out) != 2 {
			t.Fatalf("TouchConn = %v, %v", out, ok)
		}
		out[0] = impl.Age{Born: -77, Used: -77}
		out[1] = impl.Age{Born: -77, Used: -77}
		_ = append(out, impl.Age{Born: -77, Used: -77})
		if !sameAges(memory[:2], given) || memory[2] != (impl.Age{Born: 1, Used: 1}) {
			t.Errorf("the argument becomes %v", memory)
		}
	}
}
