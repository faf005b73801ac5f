package tests

import (
	"testing"

	"loop.example/connectionpool/impl"
)

// someWishes returns wishes that are valid by themselves: at both ends of all limits, at equal times, and without patience.
func someWishes() []impl.Wish {
	return []impl.Wish{
		{At: 0, Hold: 1, Patience: 0},
		{At: 0, Hold: 2, Patience: 1},
		{At: 0, Hold: 3, Patience: 100},
		{At: 0, Hold: 100, Patience: 0},
		{At: 1, Hold: 1, Patience: 0},
		{At: 1, Hold: 2, Patience: 1},
		{At: 2, Hold: 2, Patience: 2},
		{At: 3, Hold: 1, Patience: 100},
		{At: 100, Hold: 100, Patience: 99},
		{At: 1000, Hold: 1, Patience: 0},
		{At: 1000, Hold: 100, Patience: 100},
	}
}

// fallingWishes reports whether At of one of two neighbours is less than that of the one before.
func fallingWishes(list []impl.Wish) bool {
	for i := range list {
		if i > 0 && list[i].At < list[i-1].At {
			return true
		}
	}
	return false
}

// shortWishes returns all lists of at most 3 of someWishes, whether they are valid or not.
func shortWishes() [][]impl.Wish {
	some := someWishes()
	out := [][]impl.Wish{nil, {}}
	for _, x := range some {
		out = append(out, []impl.Wish{x})
		for _, y := range some {
			out = append(out, []impl.Wish{x, y})
			for _, z := range some {
				out = append(out, []impl.Wish{x, y, z})
			}
		}
	}
	return out
}

// mixedWishes returns so many wishes in which times between them, holds and patience change in a pattern of a number.
func mixedWishes(many int, pattern int) []impl.Wish {
	gaps := []int{0, 1, 0, 3, 7, 0, 2}
	holds := []int{10, 1, 25, 4, 100, 7, 13, 2}
	patience := []int{0, 5, 100, 9, 1, 30, 0, 17, 60}
	var out []impl.Wish
	now := pattern % 4
	for i := 0; i < many; i++ {
		out = append(out, impl.Wish{
			At:       now,
			Hold:     holds[(i*(pattern%7+1)+pattern)%len(holds)],
			Patience: patience[(i*(pattern%5+1)+pattern)%len(patience)],
		})
		now += gaps[(i+pattern)%len(gaps)] * (pattern % 3)
	}
	return out
}

// crowdOf returns so many equal wishes.
func crowdOf(many int, w impl.Wish) []impl.Wish {
	var out []impl.Wish
	for i := 0; i < many; i++ {
		out = append(out, w)
	}
	return out
}

// longWishes returns valid lists with up to as many wishes as there can be.
func longWishes() [][]impl.Wish {
	out := [][]impl.Wish{
		crowdOf(12, impl.Wish{At: 0, Hold: 1, Patience: 100}),
		crowdOf(12, impl.Wish{At: 0, Hold: 100, Patience: 100}),
		crowdOf(12, impl.Wish{At: 5, Hold: 50, Patience: 100}),
		crowdOf(12, impl.Wish{At: 7, Hold: 50, Patience: 99}),
		crowdOf(7, impl.Wish{At: 7, Hold: 50, Patience: 0}),
		crowdOf(6, impl.Wish{At: 7, Hold: 50, Patience: 0}),
		crowdOf(12, impl.Wish{At: 1000, Hold: 100, Patience: 100}),
	}
	for pattern := 0; pattern < 40; pattern++ {
		for _, many := range []int{4, 6, 7, 9, 12} {
			out = append(out, mixedWishes(many, pattern))
		}
	}
	return out
}

// manyWishes returns valid lists of wishes.
func manyWishes() [][]impl.Wish {
	out := longWishes()
	for _, list := range shortWishes() {
		if !fallingWishes(list) {
			out = append(out, list)
		}
	}
	return out
}

// wrongWishes returns lists of wishes that are not valid.
func wrongWishes() [][]impl.Wish {
	good := impl.Wish{At: 5, Hold: 7, Patience: 9}
	out := [][]impl.Wish{crowdOf(13, good), crowdOf(100000, good)}
	for _, w := range []impl.Wish{
		{},
		{At: -1, Hold: 1, Patience: 0},
		{At: 1001, Hold: 1, Patience: 0},
		{At: minInt, Hold: 1, Patience: 0},
		{At: maxInt, Hold: 1, Patience: 0},
		{At: 5, Hold: 0, Patience: 0},
		{At: 5, Hold: -1, Patience: 0},
		{At: 5, Hold: 101, Patience: 0},
		{At: 5, Hold: minInt, Patience: 0},
		{At: 5, Hold: maxInt, Patience: 0},
		{At: 5, Hold: 1, Patience: -1},
		{At: 5, Hold: 1, Patience: 101},
		{At: 5, Hold: 1, Patience: minInt},
		{At: 5, Hold: 1, Patience: maxInt},
		{At: maxInt, Hold: maxInt, Patience: maxInt},
	} {
		out = append(out, []impl.Wish{w}, []impl.Wish{good, w}, []impl.Wish{w, good}, []impl.Wish{good, w, good})
	}
	out = append(out, []impl.Wish{good, {At: 4, Hold: 7, Patience: 9}})
	out = append(out, []impl.Wish{{At: 0, Hold: 1}, good, {At: 4, Hold: 7, Patience: 9}, good})
	out = append(out, append(crowdOf(11, good), impl.Wish{At: 0, Hold: 1}))
	return out
}

// oddCounts returns numbers of connections that are not in 1..MaxConn.
func oddCounts() []int {
	return []int{minInt, -1, 0, 7, 12, maxInt}
}

// haveAt returns how many of wishes have a connection at a time, each from its time on, which is -1 if it is not served.
func haveAt(list []impl.Wish, times []int, now int) int {
	count := 0
	for i, start := range times {
		if start != -1 && start <= now && now < start+list[i].Hold {
			count++
		}
	}
	return count
}

// servedByHand returns when wishes are served, by looking for each one at one time after the other whether it can begin.
func servedByHand(list []impl.Wish, many int) []int {
	var times []int
	for _, w := range list {
		start := -1
		for now := w.At; now <= w.At+w.Patience && start == -1; now++ {
			if laterThan(list, times, now) < many {
				start = now
			}
		}
		times = append(times, start)
	}
	return times
}

// laterThan returns how many of the first wishes, which have times, have a connection that is not free yet at a time.
func laterThan(list []impl.Wish, times []int, now int) int {
	count := 0
	for i, start := range times {
		if start != -1 && start+list[i].Hold > now {
			count++
		}
	}
	return count
}

// countByHand returns how many times are not -1.
func countByHand(times []int) int {
	return len(withoutNumber(times, -1))
}

// longestByHand returns the greatest wait until a time that is not -1.
func longestByHand(list []impl.Wish, times []int) int {
	longest := 0
	for i, start := range times {
		if start != -1 && start-list[i].At > longest {
			longest = start - list[i].At
		}
	}
	return longest
}

// withoutPatience returns wishes with Patience 0.
func withoutPatience(list []impl.Wish) []impl.Wish {
	var out []impl.Wish
	for _, w := range list {
		out = append(out, impl.Wish{At: w.At, Hold: w.Hold, Patience: 0})
	}
	return out
}

func TestWishConstants(t *testing.T) {
	if impl.MaxHold != 100 || impl.MaxLeases != 12 {
		t.Error("MaxHold or MaxLeases")
	}
}

func TestValidWishes(t *testing.T) {
	for _, list := range shortWishes() {
		if impl.ValidWishes(list) == fallingWishes(list) {
			t.Fatalf("ValidWishes of %v = %v", list, impl.ValidWishes(list))
		}
	}
	for _, list := range longWishes() {
		if !impl.ValidWishes(list) {
			t.Errorf("ValidWishes of %v is false", list)
		}
	}
	for _, list := range wrongWishes() {
		if impl.ValidWishes(list) {
			t.Errorf("ValidWishes of %d wishes, the first one %v, is true", len(list), list[0])
		}
	}
}

func TestWrongWishesHaveFixedResults(t *testing.T) {
	for _, list := range wrongWishes() {
		for _, many := range append(oddCounts(), 1, 2, 6) {
			checkUnserved(t, list, many)
		}
		if impl.ConnsFor(list) != -1 {
			t.Errorf("ConnsFor of %d wrong wishes = %d", len(list), impl.ConnsFor(list))
		}
	}
}

func TestOddCountsOfConnectionsHaveFixedResults(t *testing.T) {
	for _, list := range manyWishes() {
		for _, many := range oddCounts() {
			checkUnserved(t, list, many)
		}
	}
}

// checkUnserved checks what is returned for arguments that are not valid.
func checkUnserved(t *testing.T, list []impl.Wish, many int) {
	if out := impl.ServeTimes(list, many); len(out) != 0 {
		t.Fatalf("ServeTimes of %d wishes by %d connections = %v", len(list), many, out)
	}
	if impl.CountServed(list, many) != -1 || impl.LongestWait(list, many) != -1 {
		t.Fatalf("CountServed or LongestWait of %d wishes by %d connections is not -1", len(list), many)
	}
}

func TestNoWishesAreServedByAnyConnections(t *testing.T) {
	for many := 1; many <= impl.MaxConn; many++ {
		for _, list := range [][]impl.Wish{nil, {}} {
			if len(impl.ServeTimes(list, many)) != 0 || impl.CountServed(list, many) != 0 || impl.LongestWait(list, many) != 0 {
				t.Errorf("no wishes and %d connections", many)
			}
		}
	}
	if impl.ConnsFor(nil) != 1 || impl.ConnsFor([]impl.Wish{}) != 1 {
		t.Error("ConnsFor without wishes is not 1")
	}
}

func TestServeTimesByHand(t *testing.T) {
	for _, x := range []struct {
		list []impl.Wish
		many int
		want []int
	}{
		// Who comes when a connection becomes free gets it then, and who comes 1 earlier without patience does not.
		{[]impl.Wish{{At: 3, Hold: 10, Patience: 0}, {At: 12, Hold: 5, Patience: 0}, {At: 13, Hold: 5, Patience: 0}}, 1, []int{3, -1, 13}},
		// Patience that is just enough, and 1 too little.
		{[]impl.Wish{{At: 0, Hold: 10, Patience: 0}, {At: 4, Hold: 5, Patience: 6}}, 1, []int{0, 10}},
		{[]impl.Wish{{At: 0, Hold: 10, Patience: 0}, {At: 4, Hold: 5, Patience: 5}}, 1, []int{0, -1}},
		// Who is not served has no connection, so the next one does not wait for it.
		{[]impl.Wish{{At: 0, Hold: 10, Patience: 0}, {At: 4, Hold: 100, Patience: 5}, {At: 4, Hold: 1, Patience: 6}}, 1, []int{0, -1, 10}},
		// Equal times are served in order.
		{[]impl.Wish{{At: 5, Hold: 3, Patience: 9}, {At: 5, Hold: 2, Patience: 9}, {At: 5, Hold: 1, Patience: 9}, {At: 5, Hold: 1, Patience: 9}}, 1, []int{5, 8, 10, 11}},
		{[]impl.Wish{{At: 5, Hold: 3, Patience: 9}, {At: 5, Hold: 2, Patience: 9}, {At: 5, Hold: 1, Patience: 9}, {At: 5, Hold: 1, Patience: 9}}, 2, []int{5, 5, 7, 8}},
		{[]impl.Wish{{At: 5, Hold: 3, Patience: 9}, {At: 5, Hold: 2, Patience: 9}, {At: 5, Hold: 1, Patience: 9}, {At: 5, Hold: 1, Patience: 9}}, 3, []int{5, 5, 5, 6}},
		// A connection that was not used yet is free first.
		{[]impl.Wish{{At: 0, Hold: 100, Patience: 0}, {At: 1, Hold: 1, Patience: 0}, {At: 2, Hold: 1, Patience: 0}}, 2, []int{0, 1, 2}},
		// Later ones do not pass those who wait before them.
		{[]impl.Wish{{At: 0, Hold: 9, Patience: 0}, {At: 0, Hold: 5, Patience: 0}, {At: 1, Hold: 50, Patience: 90}, {At: 2, Hold: 1, Patience: 90}}, 2, []int{0, 0, 5, 9}},
		// Times can be greater than MaxClock.
		{[]impl.Wish{{At: 1000, Hold: 100, Patience: 100}, {At: 1000, Hold: 100, Patience: 100}, {At: 1000, Hold: 100, Patience: 100}}, 1, []int{1000, 1100, -1}},
		// The heap of six times hands them out from the least one on.
		{[]impl.Wish{{Hold: 30}, {Hold: 10}, {Hold: 50}, {Hold: 20}, {Hold: 60}, {Hold: 40}, {Hold: 100, Patience: 100}, {Hold: 100, Patience: 100}, {Hold: 100, Patience: 100}, {Hold: 100, Patience: 100}, {Hold: 100, Patience: 100}, {Hold: 100, Patience: 100}}, 6, []int{0, 0, 0, 0, 0, 0, 10, 20, 30, 40, 50, 60}},
	} {
		if out := impl.ServeTimes(x.list, x.many); !sameNumbers(out, x.want) {
			t.Errorf("ServeTimes of %v by %d = %v, not %v", x.list, x.many, out, x.want)
		}
	}
}

func TestServeTimesStepByStep(t *testing.T) {
	waits, gone := 0, 0
	for _, list := range manyWishes() {
		for many := 1; many <= impl.MaxConn; many++ {
			want := servedByHand(list, many)
			if out := impl.ServeTimes(list, many); !sameNumbers(out, want) {
				t.Fatalf("ServeTimes of %v by %d = %v, not %v", list, many, out, want)
			}
			waits += longestByHand(list, want)
			gone += len(list) - countByHand(want)
		}
	}
	if waits == 0 || gone == 0 {
		t.Errorf("%d is waited for, and %d are not served", waits, gone)
	}
}

func TestP53WishesCanBeLeftOut(t *testing.T) {
	for _, list := range manyWishes() {
		for i := range list {
			rest := append(append([]impl.Wish{}, list[:i]...), list[i+1:]...)
			if !impl.ValidWishes(rest) {
				t.Fatalf("%v without the wish %d is not valid", list, i)
			}
		}
	}
}

func TestP54WishesAreServedInTheirTime(t *testing.T) {
	for _, list := range manyWishes() {
		for many := 1; many <= impl.MaxConn; many++ {
			times := impl.ServeTimes(list, many)
			if len(times) != len(list) {
				t.Fatalf("ServeTimes of %v by %d = %v", list, many, times)
			}
			for i, start := range times {
				if start != -1 && (start < list[i].At || start > list[i].At+list[i].Patience) {
					t.Fatalf("ServeTimes of %v by %d = %v", list, many, times)
				}
			}
		}
	}
}

func TestP55NoMoreAreServedAtOnceThanThereAreConnections(t *testing.T) {
	full := 0
	for _, list := range manyWishes() {
		for many := 1; many <= impl.MaxConn; many++ {
			times := impl.ServeTimes(list, many)
			for _, start := range times {
				if start == -1 {
					continue
				}
				have := haveAt(list, times, start)
				if have > many {
					t.Fatalf("%d of %v have one of %d connections at %d", have, list, many, start)
				}
				if have == many {
					full++
				}
			}
		}
	}
	if full == 0 {
		t.Error("never are all connections in use")
	}
}

func TestP56LaterWishesDoNotMatter(t *testing.T) {
	for _, list := range manyWishes() {
		for many := 1; many <= impl.MaxConn; many++ {
			all := impl.ServeTimes(list, many)
			for first := 0; first <= len(list); first++ {
				if out := impl.ServeTimes(list[:first], many); !sameNumbers(out, all[:first]) {
					t.Fatalf("ServeTimes of the first %d of %v by %d = %v, not %v", first, list, many, out, all[:first])
				}
			}
		}
	}
}

func TestP57ServedWishesHaveTimes(t *testing.T) {
	for _, list := range manyWishes() {
		for many := 1; many <= impl.MaxConn; many++ {
			count := impl.CountServed(list, many)
			if count != countByHand(impl.ServeTimes(list, many)) || count != countByHand(servedByHand(list, many)) {
				t.Fatalf("CountServed of %v by %d = %d", list, many, count)
			}
		}
	}
}

func TestP58NobodyWaitsLongerThanTheLongest(t *testing.T) {
	for _, list := range manyWishes() {
		greatest := 0
		for _, w := range list {
			if w.Patience > greatest {
				greatest = w.Patience
			}
		}
		for many := 1; many <= impl.MaxConn; many++ {
			longest := impl.LongestWait(list, many)
			if longest < 0 || longest > greatest || longest != longestByHand(list, servedByHand(list, many)) {
				t.Fatalf("LongestWait of %v by %d = %d", list, many, longest)
			}
		}
	}
	all := crowdOf(2, impl.Wish{At: 1000, Hold: 100, Patience: 100})
	if impl.LongestWait(all, 1) != 100 || impl.LongestWait(all, 2) != 0 {
		t.Error("LongestWait of who waits as long as can be")
	}
}

func TestP59AsManyAreNeededAsTell(t *testing.T) {
	found, none := 0, 0
	for _, list := range manyWishes() {
		want := -1
		for many := impl.MaxConn; many >= 1; many-- {
			if countByHand(servedByHand(list, many)) == len(list) {
				want = many
			}
		}
		many := impl.ConnsFor(list)
		if many != want {
			t.Fatalf("ConnsFor of %v = %d, not %d", list, many, want)
		}
		if many == -1 {
			none++
			continue
		}
		found++
		if impl.CountServed(list, many) != len(list) || impl.CountServed(list, many-1) == len(list) {
			t.Fatalf("ConnsFor of %v = %d, by which %d are served, and by 1 fewer %d", list, many, impl.CountServed(list, many), impl.CountServed(list, many-1))
		}
	}
	if found == 0 || none == 0 {
		t.Errorf("ConnsFor finds %d numbers, and %d times none", found, none)
	}
}

func TestConnsForAtTheLimits(t *testing.T) {
	at := impl.Wish{At: 9, Hold: 5, Patience: 0}
	for many := 1; many <= impl.MaxConn; many++ {
		if impl.ConnsFor(crowdOf(many, at)) != many {
			t.Errorf("ConnsFor of %d wishes at once = %d", many, impl.ConnsFor(crowdOf(many, at)))
		}
	}
	if impl.ConnsFor(crowdOf(7, at)) != -1 || impl.ConnsFor(crowdOf(12, at)) != -1 {
		t.Error("ConnsFor of more wishes at once than MaxConn is not -1")
	}
	patient := impl.Wish{At: 9, Hold: 100, Patience: 100}
	if impl.ConnsFor(crowdOf(12, patient)) != 6 || impl.ConnsFor(crowdOf(2, patient)) != 1 || impl.ConnsFor(crowdOf(3, patient)) != 2 {
		t.Error("ConnsFor of patient wishes")
	}
}

func TestP60FewWishesNeedFewConnections(t *testing.T) {
	for _, list := range manyWishes() {
		for first := 1; first <= len(list) && first <= impl.MaxConn; first++ {
			many := impl.ConnsFor(list[:first])
			if many < 1 || many > first {
				t.Fatalf("ConnsFor of the first %d of %v = %d", first, list, many)
			}
		}
	}
}

func TestP149WishesCanComeLater(t *testing.T) {
	for _, list := range manyWishes() {
		var later []impl.Wish
		for _, w := range list {
			later = append(later, impl.Wish{At: w.At + 1, Hold: w.Hold, Patience: w.Patience})
		}
		possible := len(list) == 0 || list[len(list)-1].At < impl.MaxClock
		if impl.ValidWishes(later) != possible {
			t.Fatalf("ValidWishes of %v = %v", later, impl.ValidWishes(later))
		}
	}
}

func TestP150WhoDoesNotWaitIsServedOrGoneAtOnce(t *testing.T) {
	atOnce, gone := 0, 0
	for _, list := range manyWishes() {
		hasty := withoutPatience(list)
		for many := 1; many <= impl.MaxConn; many++ {
			times := impl.ServeTimes(hasty, many)
			for i, start := range times {
				possible := haveAt(hasty, times[:i], hasty[i].At) < many
				if possible && start != hasty[i].At || !possible && start != -1 {
					t.Fatalf("ServeTimes of %v by %d = %v", hasty, many, times)
				}
				if possible {
					atOnce++
				} else {
					gone++
				}
			}
			if impl.LongestWait(hasty, many) != 0 {
				t.Fatalf("LongestWait of %v by %d = %d", hasty, many, impl.LongestWait(hasty, many))
			}
		}
	}
	if atOnce == 0 || gone == 0 {
		t.Errorf("%d are served at once, and %d are gone", atOnce, gone)
	}
}

func TestP151LaterWishesDoNotShortenWaits(t *testing.T) {
	longer := 0
	for _, list := range manyWishes() {
		for many := 1; many <= impl.MaxConn; many++ {
			all := impl.LongestWait(list, many)
			for first := range list {
				few := impl.LongestWait(list[:first], many)
				if few > all {
					t.Fatalf("LongestWait of the first %d of %v by %d = %d, and of all %d", first, list, many, few, all)
				}
				if few < all {
					longer++
				}
			}
		}
	}
	if longer == 0 {
		t.Error("LongestWait is never greater with more wishes")
	}
}

func TestP152FewerWishesNeedNoMoreConnections(t *testing.T) {
	fewer := 0
	for _, list := range manyWishes() {
		all := impl.ConnsFor(list)
		if len(list) == 0 || all == -1 {
			continue
		}
		few := impl.ConnsFor(list[:len(list)-1])
		if few < 1 || few > all {
			t.Fatalf("ConnsFor of %v = %d, and without the last one %d", list, all, few)
		}
		if few < all {
			fewer++
		}
	}
	if fewer == 0 {
		t.Error("ConnsFor is never less with fewer wishes")
	}
}

func TestWishesShareNoMemory(t *testing.T) {
	// What lies behind the list is memory of the argument, too.
	memory := [3]impl.Wish{{At: 0, Hold: 10, Patience: 5}, {At: 2, Hold: 10, Patience: 9}, {At: 1, Hold: 1, Patience: 1}}
	given := memory
	out := impl.ServeTimes(memory[:2], 1)
	impl.ValidWishes(memory[:2])
	impl.CountServed(memory[:2], 1)
	impl.LongestWait(memory[:2], 1)
	impl.ConnsFor(memory[:2])
	for i := range out {
		out[i] = -77
	}
	_ = append(out, -77)
	if memory != given {
		t.Errorf("the argument becomes %v", memory)
	}
	if again := impl.ServeTimes(memory[:2], 1); !sameNumbers(again, []int{0, 10}) {
		t.Errorf("ServeTimes the second time = %v", again)
	}
}
