package tests

import (
	"testing"

	"loop.example/connectionpool/impl"
)

// manyBreakers returns valid breakers at both ends of all limits, and between them.
func manyBreakers() []impl.Breaker {
	var out []impl.Breaker
	for _, limit := range []int{1, 2, 3, 8} {
		for _, rest := range []int{1, 2, 10, 500, 999, 1000} {
			for _, since := range []int{0, 1, 5, 500, 999, 1000} {
				for fails := 0; fails < limit; fails++ {
					out = append(out, impl.Breaker{Limit: limit, Rest: rest, State: 0, Fails: fails, Since: since})
				}
				out = append(out, impl.Breaker{Limit: limit, Rest: rest, State: 1, Since: since})
				out = append(out, impl.Breaker{Limit: limit, Rest: rest, State: 2, Since: since})
			}
		}
	}
	return out
}

// wrongBreakers returns breakers that are not valid, each for one reason alone, where that can be.
func wrongBreakers() []impl.Breaker {
	return []impl.Breaker{
		{},
		{Limit: 0, Rest: 10},
		{Limit: -1, Rest: 10},
		{Limit: 9, Rest: 10},
		{Limit: minInt, Rest: 10},
		{Limit: maxInt, Rest: 10},
		{Limit: 2, Rest: 0},
		{Limit: 2, Rest: -1},
		{Limit: 2, Rest: 1001},
		{Limit: 2, Rest: minInt},
		{Limit: 2, Rest: maxInt},
		{Limit: 2, Rest: 10, State: -1},
		{Limit: 2, Rest: 10, State: 3},
		{Limit: 2, Rest: 10, State: minInt},
		{Limit: 2, Rest: 10, State: maxInt},
		{Limit: 2, Rest: 10, Fails: -1},
		{Limit: 2, Rest: 10, Fails: 2},
		{Limit: 1, Rest: 10, Fails: 1},
		{Limit: 8, Rest: 10, Fails: 8},
		{Limit: 8, Rest: 10, Fails: minInt},
		{Limit: 8, Rest: 10, Fails: maxInt},
		{Limit: 2, Rest: 10, State: 1, Fails: 1},
		{Limit: 2, Rest: 10, State: 2, Fails: 1},
		{Limit: 2, Rest: 10, State: 1, Fails: -1},
		{Limit: 2, Rest: 10, Since: -1},
		{Limit: 2, Rest: 10, Since: 1001},
		{Limit: 2, Rest: 10, State: 1, Since: minInt},
		{Limit: 2, Rest: 10, State: 2, Since: maxInt},
		{Limit: minInt, Rest: minInt, State: minInt, Fails: minInt, Since: minInt},
		{Limit: maxInt, Rest: maxInt, State: maxInt, Fails: maxInt, Since: maxInt},
	}
}

// momentsOf returns times in Since..MaxClock, among them those around the one from which an open breaker lets calls pass.
func momentsOf(b impl.Breaker) []int {
	var out []int
	for _, now := range timesAround(b.Since, b.Since+b.Rest, (b.Since+impl.MaxClock)/2, impl.MaxClock) {
		if now >= b.Since {
			out = append(out, now)
		}
	}
	return out
}

// oddMoments returns numbers that are no times in Since..MaxClock.
func oddMoments(b impl.Breaker) []int {
	return []int{minInt, -1, b.Since - 1, 1001, maxInt}
}

// letsByHand reports whether a valid breaker lets a call pass, with the numbers of the states written out.
func letsByHand(b impl.Breaker, now int) bool {
	return b.State == 0 || b.State == 1 && now >= b.Since+b.Rest
}

// endByHand returns a valid breaker after a call has ended, as the document tells it, case by case.
func endByHand(b impl.Breaker, good bool, now int) impl.Breaker {
	switch {
	case b.State == 0 && good:
		return impl.Breaker{Limit: b.Limit, Rest: b.Rest, State: 0, Fails: 0, Since: b.Since}
	case b.State == 0 && b.Fails < b.Limit-1:
		return impl.Breaker{Limit: b.Limit, Rest: b.Rest, State: 0, Fails: b.Fails + 1, Since: b.Since}
	case b.State == 0:
		return impl.Breaker{Limit: b.Limit, Rest: b.Rest, State: 1, Fails: 0, Since: now}
	case b.State == 2 && good:
		return impl.Breaker{Limit: b.Limit, Rest: b.Rest, State: 0, Fails: 0, Since: now}
	case b.State == 2:
		return impl.Breaker{Limit: b.Limit, Rest: b.Rest, State: 1, Fails: 0, Since: now}
	}
	return b
}

// statesByHand returns the state after each call, as the document tells it.
func statesByHand(b impl.Breaker, goods []bool, times []int) []int {
	var out []int
	for i, good := range goods {
		if letsByHand(b, times[i]) {
			if b.State == 1 {
				b.State = 2
				b.Since = times[i]
			}
			b = endByHand(b, good, times[i])
		}
		out = append(out, b.State)
	}
	return out
}

// callTimes returns lists of so many times in Since..MaxClock that do not fall: all the same, and with steps of several lengths.
func callTimes(b impl.Breaker, many int) [][]int {
	var out [][]int
	for _, step := range []int{0, 1, 3, b.Rest - 1, b.Rest} {
		var times []int
		now := b.Since
		for i := 0; i < many; i++ {
			times = append(times, now)
			// Every third call comes at the same time as the one before.
			if i%3 != 2 {
				now += step
			}
			if now > impl.MaxClock {
				now = impl.MaxClock
			}
		}
		out = append(out, times)
	}
	return out
}

// callResults returns lists of so many results of calls: all the same, and some in which they change.
func callResults(many int) [][]bool {
	var out [][]bool
	for _, bits := range []int{0, 1<<12 - 1, 1<<6 - 1, 64, 0b101010101010, 0b100100100100, 0b111011101110, 0b10011} {
		out = append(out, checksOf(many, bits&(1<<many-1)))
	}
	return out
}

func TestBreakerConstants(t *testing.T) {
	if impl.BreakerShut != 0 || impl.BreakerOpen != 1 || impl.BreakerTry != 2 || impl.MaxLimit != 8 {
		t.Error("BreakerShut, BreakerOpen, BreakerTry or MaxLimit")
	}
}

func TestValidBreaker(t *testing.T) {
	for _, b := range manyBreakers() {
		if !impl.ValidBreaker(b) {
			t.Fatalf("ValidBreaker of %v is false", b)
		}
	}
	for _, b := range wrongBreakers() {
		if impl.ValidBreaker(b) {
			t.Errorf("ValidBreaker of %v is true", b)
		}
	}
}

func TestWrongBreakersHaveFixedResults(t *testing.T) {
	for _, b := range wrongBreakers() {
		for _, now := range []int{minInt, -1, 0, 1, 10, 1000, 1001, maxInt} {
			if impl.LetsCall(b, now) {
				t.Errorf("LetsCall of %v at %d holds", b, now)
			}
			if out, ok := impl.BeginCall(b, now); ok || out != (impl.Breaker{}) {
				t.Errorf("BeginCall of %v at %d = %v, %v", b, now, out, ok)
			}
			for _, good := range []bool{false, true} {
				if out, ok := impl.EndCall(b, good, now); ok || out != (impl.Breaker{}) {
					t.Errorf("EndCall of %v, %v at %d = %v, %v", b, good, now, out, ok)
				}
				if path := impl.BreakerPath(b, []bool{good}, []int{now}); len(path) != 0 {
					t.Errorf("BreakerPath of %v, %v at %d = %v", b, good, now, path)
				}
			}
		}
	}
}

func TestOddMomentsHaveFixedResults(t *testing.T) {
	for _, b := range manyBreakers() {
		for _, now := range oddMoments(b) {
			if impl.LetsCall(b, now) {
				t.Fatalf("LetsCall of %v at %d holds", b, now)
			}
			if out, ok := impl.BeginCall(b, now); ok || out != (impl.Breaker{}) {
				t.Fatalf("BeginCall of %v at %d = %v, %v", b, now, out, ok)
			}
			for _, good := range []bool{false, true} {
				if out, ok := impl.EndCall(b, good, now); ok || out != (impl.Breaker{}) {
					t.Fatalf("EndCall of %v, %v at %d = %v, %v", b, good, now, out, ok)
				}
			}
		}
	}
}

func TestP45BreakersCanBeShut(t *testing.T) {
	for _, b := range manyBreakers() {
		if !impl.ValidBreaker(impl.Breaker{Limit: b.Limit, Rest: b.Rest, State: impl.BreakerShut, Since: b.Since}) {
			t.Fatalf("%v is not valid as BreakerShut", b)
		}
	}
}

func TestP46OpenBreakersLetNothingPassForATime(t *testing.T) {
	passed, kept := 0, 0
	for _, b := range manyBreakers() {
		for _, now := range momentsOf(b) {
			lets := impl.LetsCall(b, now)
			if lets != letsByHand(b, now) {
				t.Fatalf("LetsCall of %v at %d is %v", b, now, lets)
			}
			if b.State == impl.BreakerShut && !lets || b.State == impl.BreakerTry && lets {
				t.Fatalf("LetsCall of %v at %d is %v", b, now, lets)
			}
			if b.State == impl.BreakerOpen && lets {
				passed++
			}
			if b.State == impl.BreakerOpen && !lets {
				kept++
			}
			for _, later := range momentsOf(b) {
				if lets && later >= now && !impl.LetsCall(b, later) {
					t.Fatalf("LetsCall of %v at %d is true, but at %d it is not", b, now, later)
				}
			}
		}
	}
	if passed == 0 || kept == 0 {
		t.Errorf("open breakers let pass %d, and keep away %d", passed, kept)
	}
}

func TestOpenBreakersLetPassExactlyAfterRest(t *testing.T) {
	for _, rest := range []int{1, 2, 10, 995} {
		b := impl.Breaker{Limit: 3, Rest: rest, State: impl.BreakerOpen, Since: 5}
		for now := 5; now <= impl.MaxClock; now++ {
			if impl.LetsCall(b, now) != (now >= 5+rest) {
				t.Fatalf("LetsCall of %v at %d is %v", b, now, impl.LetsCall(b, now))
			}
		}
	}
	for _, b := range []impl.Breaker{{Limit: 1, Rest: 1000, State: 1, Since: 1}, {Limit: 1, Rest: 1, State: 1, Since: 1000}} {
		if impl.LetsCall(b, 1000) {
			t.Errorf("LetsCall of %v holds at last", b)
		}
	}
}

func TestP47BegunCallsAreTriesOrNothingNew(t *testing.T) {
	shut, tried := 0, 0
	for _, b := range manyBreakers() {
		for _, now := range momentsOf(b) {
			out, ok := impl.BeginCall(b, now)
			if !ok {
				continue
			}
			want := b
			if b.State == impl.BreakerOpen {
				tried++
				want = impl.Breaker{Limit: b.Limit, Rest: b.Rest, State: 2, Since: now}
			} else {
				shut++
			}
			if out != want || !impl.ValidBreaker(out) {
				t.Fatalf("BeginCall of %v at %d = %v", b, now, out)
			}
		}
	}
	if shut == 0 || tried == 0 {
		t.Errorf("calls begin %d times with shut breakers, and %d times with open ones", shut, tried)
	}
}

func TestP48CallsBeginIfTheyAreLetPass(t *testing.T) {
	for _, b := range manyBreakers() {
		for _, now := range momentsOf(b) {
			out, ok := impl.BeginCall(b, now)
			if ok != impl.LetsCall(b, now) || ok != letsByHand(b, now) {
				t.Fatalf("BeginCall of %v at %d succeeds: %v", b, now, ok)
			}
			if !ok && out != (impl.Breaker{}) {
				t.Fatalf("BeginCall of %v at %d fails with %v", b, now, out)
			}
		}
	}
}

func TestP146OneCallIsTriedAtATime(t *testing.T) {
	tried := 0
	for _, b := range manyBreakers() {
		for _, now := range momentsOf(b) {
			out, ok := impl.BeginCall(b, now)
			if !ok || b.State != impl.BreakerOpen {
				continue
			}
			tried++
			for _, later := range []int{now, impl.MaxClock} {
				if again, ok := impl.BeginCall(out, later); ok || again != (impl.Breaker{}) {
					t.Fatalf("BeginCall of %v at %d = %v, %v", out, later, again, ok)
				}
			}
		}
	}
	if tried == 0 {
		t.Error("no call is tried")
	}
}

func TestEndCallOfEveryBreaker(t *testing.T) {
	for _, b := range manyBreakers() {
		for _, now := range momentsOf(b) {
			for _, good := range []bool{false, true} {
				out, ok := impl.EndCall(b, good, now)
				if !ok || out != endByHand(b, good, now) || !impl.ValidBreaker(out) {
					t.Fatalf("EndCall of %v, %v at %d = %v, %v", b, good, now, out, ok)
				}
			}
		}
	}
}

func TestP49GoodCallsShutBreakers(t *testing.T) {
	for _, b := range manyBreakers() {
		for _, now := range momentsOf(b) {
			out, ok := impl.EndCall(b, true, now)
			if !ok || out.Fails != 0 || (out.State == impl.BreakerShut) != (b.State != impl.BreakerOpen) {
				t.Fatalf("EndCall of %v, good at %d = %v, %v", b, now, out, ok)
			}
			since := b.Since
			if b.State == impl.BreakerTry {
				since = now
			}
			if out.Since != since {
				t.Fatalf("EndCall of %v, good at %d = %v", b, now, out)
			}
		}
	}
}

func TestP50OpenBreakersAreNotChangedByEnds(t *testing.T) {
	for _, b := range manyBreakers() {
		for _, now := range momentsOf(b) {
			for _, good := range []bool{false, true} {
				if out, ok := impl.EndCall(b, good, now); b.State == impl.BreakerOpen && (!ok || out != b) {
					t.Fatalf("EndCall of %v, %v at %d = %v, %v", b, good, now, out, ok)
				}
			}
		}
	}
}

func TestP50FailingAsOftenAsLimitOpensBreakers(t *testing.T) {
	for limit := 1; limit <= impl.MaxLimit; limit++ {
		start := impl.Breaker{Limit: limit, Rest: 10, Since: 100}
		b := start
		for i := 1; i <= limit; i++ {
			want := impl.Breaker{Limit: limit, Rest: 10, Fails: i, Since: 100}
			if i == limit {
				want = impl.Breaker{Limit: limit, Rest: 10, State: impl.BreakerOpen, Since: 100 + i}
			}
			next, ok := impl.EndCall(b, false, 100+i)
			if !ok || next != want {
				t.Fatalf("EndCall of %v = %v, %v", b, next, ok)
			}
			b = next
		}
	}
}

func TestGoodCallsBreakRunsOfFails(t *testing.T) {
	b := impl.Breaker{Limit: 3, Rest: 10}
	for i, good := range []bool{false, false, true, false, false, true, false, false} {
		next, ok := impl.EndCall(b, good, i)
		if !ok || next.State != impl.BreakerShut || next.Since != 0 {
			t.Fatalf("EndCall of %v, %v = %v, %v", b, good, next, ok)
		}
		b = next
	}
	if b.Fails != 2 {
		t.Errorf("Fails is %d", b.Fails)
	}
}

func TestALimitOf1OpensWithTheFirstFail(t *testing.T) {
	b := impl.Breaker{Limit: 1, Rest: 10, Since: 3}
	if out, ok := impl.EndCall(b, false, 3); !ok || out != (impl.Breaker{Limit: 1, Rest: 10, State: 1, Since: 3}) {
		t.Errorf("EndCall of %v = %v, %v", b, out, ok)
	}
	try := impl.Breaker{Limit: 1, Rest: 10, State: impl.BreakerTry, Since: 3}
	if out, ok := impl.EndCall(try, false, 4); !ok || out != (impl.Breaker{Limit: 1, Rest: 10, State: 1, Since: 4}) {
		t.Errorf("EndCall of %v = %v, %v", try, out, ok)
	}
	path := impl.BreakerPath(b, []bool{true, false, true, false, true, false}, []int{3, 4, 13, 14, 24, 24})
	if !sameNumbers(path, []int{0, 1, 1, 1, 0, 1}) {
		t.Errorf("BreakerPath of %v = %v", b, path)
	}
}

func TestP147FailedTriesOpenBreakersAnew(t *testing.T) {
	tries := 0
	for _, b := range manyBreakers() {
		if b.State != impl.BreakerTry {
			continue
		}
		for _, now := range momentsOf(b) {
			tries++
			out, ok := impl.EndCall(b, false, now)
			if !ok || out.State != impl.BreakerOpen || out.Since != now || out.Fails != 0 {
				t.Fatalf("EndCall of %v, not good at %d = %v, %v", b, now, out, ok)
			}
			for _, later := range momentsOf(out) {
				if impl.LetsCall(out, later) != (later >= now+b.Rest) {
					t.Fatalf("LetsCall of %v at %d is %v", out, later, impl.LetsCall(out, later))
				}
			}
		}
	}
	if tries == 0 {
		t.Error("no call is tried")
	}
}

func TestP51PathsTellEachState(t *testing.T) {
	seen := [3]int{}
	for _, b := range manyBreakers() {
		for _, many := range []int{0, 1, 2, 5, impl.MaxChecks} {
			for _, times := range callTimes(b, many) {
				for _, goods := range callResults(many) {
					path := impl.BreakerPath(b, goods, times)
					if !sameNumbers(path, statesByHand(b, goods, times)) {
						t.Fatalf("BreakerPath of %v, %v, %v = %v", b, goods, times, path)
					}
					for _, state := range path {
						seen[state]++
					}
					if many > 0 && !sameNumbers(impl.BreakerPath(b, goods[:many-1], times[:many-1]), path[:many-1]) {
						t.Fatalf("BreakerPath of %v, %v, %v without the last call is another one", b, goods, times)
					}
				}
			}
		}
	}
	if seen[0] == 0 || seen[1] == 0 || seen[2] == 0 {
		t.Errorf("the states are seen %v times", seen)
	}
}

func TestP52PathsGoStepByStep(t *testing.T) {
	changed, kept := 0, 0
	for _, b := range manyBreakers() {
		for _, now := range momentsOf(b) {
			for _, good := range []bool{false, true} {
				want := b.State
				begun, ok := impl.BeginCall(b, now)
				if ok {
					changed++
					ended, ok := impl.EndCall(begun, good, now)
					if !ok {
						t.Fatalf("EndCall of %v, %v at %d fails", begun, good, now)
					}
					want = ended.State
				} else {
					kept++
				}
				path := impl.BreakerPath(b, []bool{good}, []int{now})
				if !sameNumbers(path, []int{want}) {
					t.Fatalf("BreakerPath of %v, %v at %d = %v", b, good, now, path)
				}
			}
		}
	}
	if changed == 0 || kept == 0 {
		t.Errorf("%d calls begin, and %d do not", changed, kept)
	}
}

func TestPathsWithTriesThatFail(t *testing.T) {
	b := impl.Breaker{Limit: 2, Rest: 10}
	// The try at 11 fails: from then on 10 more have to go by.
	goods := []bool{false, false, true, false, true, true, true, false, false}
	times := []int{0, 1, 10, 11, 20, 21, 21, 22, 22}
	if path := impl.BreakerPath(b, goods, times); !sameNumbers(path, []int{0, 1, 1, 1, 1, 0, 0, 0, 1}) {
		t.Errorf("BreakerPath = %v", path)
	}
	try := impl.Breaker{Limit: 2, Rest: 10, State: impl.BreakerTry, Since: 5}
	if path := impl.BreakerPath(try, []bool{true, false, true}, []int{5, 50, 1000}); !sameNumbers(path, []int{2, 2, 2}) {
		t.Errorf("BreakerPath of %v = %v", try, path)
	}
}

func TestP148GoodCallsKeepBreakersShut(t *testing.T) {
	for _, b := range manyBreakers() {
		if b.State != impl.BreakerShut {
			continue
		}
		for many := 0; many <= impl.MaxChecks; many++ {
			for _, times := range callTimes(b, many) {
				path := impl.BreakerPath(b, checksOf(many, 1<<many-1), times)
				if !sameNumbers(path, make([]int, many)) {
					t.Fatalf("BreakerPath of %v, %d good calls at %v = %v", b, many, times, path)
				}
			}
		}
	}
}

func TestBreakerPathOfOtherArguments(t *testing.T) {
	for _, b := range manyBreakers() {
		for _, x := range []struct {
			goods []bool
			times []int
		}{
			{[]bool{true}, nil},
			{nil, []int{b.Since}},
			{[]bool{true, true}, []int{b.Since}},
			{[]bool{true}, []int{b.Since, b.Since}},
			{[]bool{true}, []int{b.Since - 1}},
			{[]bool{true, true}, []int{b.Since, b.Since - 1}},
			{[]bool{true}, []int{minInt}},
			{[]bool{true}, []int{1001}},
			{[]bool{true, true}, []int{b.Since, maxInt}},
			{[]bool{true, true, true}, []int{b.Since, 1001, 1000}},
			{checksOf(13, 1<<13-1), callTimes(b, 13)[0]},
			{make([]bool, 100000), make([]int, 100000)},
			{make([]bool, 100000), nil},
			{nil, make([]int, 100000)},
		} {
			if path := impl.BreakerPath(b, x.goods, x.times); len(path) != 0 {
				t.Fatalf("BreakerPath of %v, %d results at %d times = %v", b, len(x.goods), len(x.times), path)
			}
		}
	}
}

func TestBreakerPathOfTimesThatFall(t *testing.T) {
	goods := []bool{true, false, true}
	for state := impl.BreakerShut; state <= impl.BreakerTry; state++ {
		b := impl.Breaker{Limit: 2, Rest: 10, State: state, Since: 100}
		for _, times := range [][]int{{101, 100, 102}, {100, 102, 101}, {102, 101, 100}, {1000, 1000, 999}, {1000, 100, 100}} {
			if path := impl.BreakerPath(b, goods, times); len(path) != 0 {
				t.Errorf("BreakerPath of %v at %v = %v", b, times, path)
			}
		}
		for _, times := range [][]int{{100, 100, 100}, {100, 101, 101}, {1000, 1000, 1000}, {100, 100, 1000}} {
			if path := impl.BreakerPath(b, goods, times); !sameNumbers(path, statesByHand(b, goods, times)) {
				t.Errorf("BreakerPath of %v at %v = %v", b, times, path)
			}
		}
	}
}

func TestBreakerPathsShareNoMemory(t *testing.T) {
	goods := []bool{false, true, false, false, true}
	times := []int{5, 6, 7, 8, 9}
	b := impl.Breaker{Limit: 2, Rest: 10, Since: 5}
	path := impl.BreakerPath(b, goods[:4], times[:4])
	for i := range path {
		path[i] = -77
	}
	_ = append(path, -77)
	if !sameNumbers(times, []int{5, 6, 7, 8, 9}) {
		t.Errorf("the times become %v", times)
	}
	for i, good := range []bool{false, true, false, false, true} {
		if goods[i] != good {
			t.Errorf("the results become %v", goods)
		}
	}
	if again := impl.BreakerPath(b, goods[:4], times[:4]); !sameNumbers(again, []int{0, 0, 0, 1}) {
		t.Errorf("BreakerPath the second time = %v", again)
	}
}
