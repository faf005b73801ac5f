package tests

import (
	"testing"

	"loop.example/connectionpool/impl"
)

// checksOf returns as many checks as told, of which those are good whose bit of a number is set, the first one the lowest.
func checksOf(many int, bits int) []bool {
	list := []bool{}
	for i := 0; i < many; i++ {
		list = append(list, bits>>i&1 == 1)
	}
	return list
}

// allChecks returns all lists of at most so many checks.
func allChecks(most int) [][]bool {
	out := [][]bool{nil}
	for many := 0; many <= most; many++ {
		for bits := 0; bits < 1<<many; bits++ {
			out = append(out, checksOf(many, bits))
		}
	}
	return out
}

// someChecks returns all short lists of checks, and long ones of which some have long runs.
func someChecks() [][]bool {
	out := allChecks(7)
	for bits := 0; bits < 1<<impl.MaxChecks; bits += 37 {
		out = append(out, checksOf(impl.MaxChecks, bits))
	}
	for many := 8; many <= impl.MaxChecks; many++ {
		for run := 0; run <= many; run++ {
			out = append(out, checksOf(many, 1<<run-1), checksOf(many, (1<<many-1)-(1<<run-1)))
		}
	}
	return out
}

// longChecks returns lists of more checks than there can be.
func longChecks() [][]bool {
	return [][]bool{checksOf(13, 0), checksOf(13, 1<<13-1), checksOf(14, 5), make([]bool, 64), make([]bool, 65), make([]bool, 100000)}
}

// someRuns returns numbers of fails and goods at both ends of their limits, and between them.
func someRuns() []int {
	return []int{1, 2, 3, 5, 11, 12}
}

// oddRuns returns numbers that are neither fails nor goods.
func oddRuns() []int {
	return []int{minInt, -1, 0, 13, 64, maxInt}
}

// withCheck returns a list of checks with a further one.
func withCheck(list []bool, good bool) []bool {
	return append(append([]bool{}, list...), good)
}

// runByHand returns how many checks there are behind the last change.
func runByHand(list []bool) int {
	start := 0
	for i := 1; i < len(list); i++ {
		if list[i] != list[i-1] {
			start = i
		}
	}
	return len(list) - start
}

// pathByHand returns whether a connection is good after each check, with counts of checks in a row that begin anew.
func pathByHand(list []bool, fails int, goods int) []int {
	path := []int{}
	state, bad, well := 1, 0, 0
	for _, good := range list {
		if good {
			well++
			bad = 0
		} else {
			bad++
			well = 0
		}
		if state == 1 && bad == fails {
			state = 0
		} else if state == 0 && well == goods {
			state = 1
		}
		path = append(path, state)
	}
	return path
}

// countGood returns how many checks are good.
func countGood(list []bool) int {
	count := 0
	for _, good := range list {
		if good {
			count++
		}
	}
	return count
}

func TestCheckConstants(t *testing.T) {
	if impl.MaxChecks != 12 {
		t.Errorf("MaxChecks = %d", impl.MaxChecks)
	}
}

func TestTooManyChecksHaveFixedResults(t *testing.T) {
	for _, list := range longChecks() {
		if impl.LastRun(list) != -1 || impl.GoodShare(list) != -1 {
			t.Errorf("LastRun and GoodShare of %d checks = %d, %d", len(list), impl.LastRun(list), impl.GoodShare(list))
		}
		for _, fails := range append(oddRuns(), someRuns()...) {
			for _, goods := range append(oddRuns(), someRuns()...) {
				if impl.IsGood(list, fails, goods) || len(impl.GoodPath(list, fails, goods)) != 0 {
					t.Errorf("%d checks with %d, %d have no fixed result", len(list), fails, goods)
				}
			}
		}
	}
}

func TestOddRunsHaveFixedResults(t *testing.T) {
	for _, list := range someChecks() {
		for _, odd := range oddRuns() {
			for _, other := range append(oddRuns(), someRuns()...) {
				if impl.IsGood(list, odd, other) || impl.IsGood(list, other, odd) {
					t.Fatalf("IsGood of %v with %d and %d holds", list, odd, other)
				}
				if len(impl.GoodPath(list, odd, other)) != 0 || len(impl.GoodPath(list, other, odd)) != 0 {
					t.Fatalf("GoodPath of %v with %d and %d is not empty", list, odd, other)
				}
			}
		}
	}
}

func TestP38RunsAreAtTheEnd(t *testing.T) {
	for _, list := range allChecks(impl.MaxChecks - 1) {
		run := impl.LastRun(list)
		for _, good := range []bool{false, true} {
			want := 1
			if len(list) == 0 || list[len(list)-1] == good {
				want = run + 1
			}
			if impl.LastRun(withCheck(list, good)) != want {
				t.Fatalf("LastRun of %v and %v = %d", list, good, impl.LastRun(withCheck(list, good)))
			}
		}
	}
	if impl.LastRun(nil) != 0 || impl.LastRun([]bool{}) != 0 {
		t.Error("LastRun without checks")
	}
}

func TestP39RunsAreOfOneResult(t *testing.T) {
	for _, list := range allChecks(impl.MaxChecks) {
		run := impl.LastRun(list)
		if run != runByHand(list) || run > len(list) {
			t.Fatalf("LastRun of %v = %d", list, run)
		}
		for i := len(list) - run; i < len(list); i++ {
			if list[i] != list[len(list)-1] {
				t.Fatalf("LastRun of %v = %d, but the place %d is another one", list, run, i)
			}
		}
		if run < len(list) && list[len(list)-run-1] == list[len(list)-1] {
			t.Fatalf("LastRun of %v = %d, but the one before is the same", list, run)
		}
	}
}

func TestP143RunsAreCountedFromTheEnd(t *testing.T) {
	for _, list := range allChecks(impl.MaxChecks) {
		run := impl.LastRun(list)
		if impl.LastRun(list[len(list)-run:]) != run {
			t.Fatalf("LastRun of the last run of %v alone = %d", list, impl.LastRun(list[len(list)-run:]))
		}
	}
}

func TestP40ChecksDecide(t *testing.T) {
	for _, list := range someChecks() {
		for fails := 1; fails <= impl.MaxChecks; fails++ {
			for goods := 1; goods <= impl.MaxChecks; goods++ {
				good := impl.IsGood(list, fails, goods)
				path := pathByHand(list, fails, goods)
				if good != (len(list) == 0 || path[len(list)-1] == 1) {
					t.Fatalf("IsGood of %v with %d, %d is %v", list, fails, goods, good)
				}
				run := impl.LastRun(list)
				if len(list) > 0 && list[len(list)-1] && run >= goods && !good {
					t.Fatalf("IsGood of %v with %d, %d is false", list, fails, goods)
				}
				if len(list) > 0 && !list[len(list)-1] && run >= fails && good {
					t.Fatalf("IsGood of %v with %d, %d is true", list, fails, goods)
				}
			}
		}
	}
}

func TestRunsOfAllChecksDecide(t *testing.T) {
	bad := make([]bool, impl.MaxChecks)
	for fails := 1; fails <= impl.MaxChecks; fails++ {
		if !impl.IsGood(bad[:fails-1], fails, 1) || impl.IsGood(bad[:fails], fails, 1) || impl.IsGood(bad, fails, 12) {
			t.Errorf("IsGood of bad results with %d fails", fails)
		}
	}
	for goods := 1; goods < impl.MaxChecks; goods++ {
		// The first one is bad, and all others are good.
		list := checksOf(1+goods, 1<<(1+goods)-2)
		if !impl.IsGood(list, 1, goods) || impl.IsGood(list[:goods], 1, goods) || impl.IsGood(list, 1, goods+1) {
			t.Errorf("IsGood of %v with %d goods", list, goods)
		}
	}
}

func TestP41FewResultsChangeNothing(t *testing.T) {
	kept := 0
	for _, list := range someChecks() {
		for _, fails := range someRuns() {
			for _, goods := range someRuns() {
				run := impl.LastRun(list)
				if run == 0 || run >= fails || run >= goods {
					continue
				}
				kept++
				if impl.IsGood(list, fails, goods) != impl.IsGood(list[:len(list)-1], fails, goods) {
					t.Fatalf("IsGood of %v with %d, %d is not as before", list, fails, goods)
				}
			}
		}
	}
	if kept == 0 {
		t.Error("no list has a last run that is shorter than fails and goods")
	}
}

func TestP42PathsTellEachStep(t *testing.T) {
	for _, list := range someChecks() {
		for _, fails := range someRuns() {
			for _, goods := range someRuns() {
				path := impl.GoodPath(list, fails, goods)
				if !sameNumbers(path, pathByHand(list, fails, goods)) {
					t.Fatalf("GoodPath of %v with %d, %d = %v", list, fails, goods, path)
				}
				for i, n := range path {
					if impl.IsGood(list[:i+1], fails, goods) != (n == 1) {
						t.Fatalf("IsGood of %v with %d, %d is not %d", list[:i+1], fails, goods, n)
					}
				}
			}
		}
	}
}

func TestP43With1And1TheLastCheckDecides(t *testing.T) {
	for _, list := range allChecks(impl.MaxChecks) {
		path := impl.GoodPath(list, 1, 1)
		if len(path) != len(list) {
			t.Fatalf("GoodPath of %v with 1, 1 = %v", list, path)
		}
		for i, n := range path {
			if (n == 1) != list[i] || n < 0 || n > 1 {
				t.Fatalf("GoodPath of %v with 1, 1 = %v", list, path)
			}
		}
	}
}

func TestP144LaterChecksChangeNothingBefore(t *testing.T) {
	for _, list := range someChecks() {
		for _, fails := range someRuns() {
			for _, goods := range someRuns() {
				path := impl.GoodPath(list, fails, goods)
				for many := 0; many <= len(list); many++ {
					if !sameNumbers(impl.GoodPath(list[:many], fails, goods), path[:many]) {
						t.Fatalf("GoodPath of the first %d of %v with %d, %d", many, list, fails, goods)
					}
				}
			}
		}
	}
}

func TestP174ConnectionsAreGoodAtFirst(t *testing.T) {
	for fails := 1; fails <= impl.MaxChecks; fails++ {
		for goods := 1; goods <= impl.MaxChecks; goods++ {
			if !impl.IsGood(nil, fails, goods) {
				t.Fatalf("IsGood of no results with %d, %d is false", fails, goods)
			}
			for many := 0; many <= impl.MaxChecks; many++ {
				if !impl.IsGood(checksOf(many, 1<<many-1), fails, goods) {
					t.Fatalf("IsGood of %d good results with %d, %d is false", many, fails, goods)
				}
			}
		}
	}
}

func TestP44SharesAreParts(t *testing.T) {
	for _, list := range allChecks(impl.MaxChecks) {
		share := impl.GoodShare(list)
		good := countGood(list)
		if (share == 100) != (good == len(list)) || (share == 0) != (len(list) > 0 && good == 0) {
			t.Fatalf("GoodShare of %v = %d", list, share)
		}
		// Rounded down: the share is not too great, and 1 more would be.
		if len(list) > 0 && (share*len(list) > 100*good || (share+1)*len(list) <= 100*good) {
			t.Fatalf("GoodShare of %v = %d", list, share)
		}
	}
}

func TestGoodShareIsRoundedDown(t *testing.T) {
	for _, x := range []struct {
		many int
		bits int
		want int
	}{
		{0, 0, 100},
		{1, 0, 0},
		{1, 1, 100},
		{2, 2, 50},
		{3, 4, 33},
		{3, 5, 66},
		{7, 127 - 8, 85},
		{12, 1 << 11, 8},
		{12, 1<<12 - 2, 91},
		{12, 1<<12 - 1, 100},
	} {
		if share := impl.GoodShare(checksOf(x.many, x.bits)); share != x.want {
			t.Errorf("GoodShare of %v = %d", checksOf(x.many, x.bits), share)
		}
	}
}

func TestP145OneMoreGoodResultIsNoWorse(t *testing.T) {
	for _, list := range allChecks(impl.MaxChecks - 1) {
		share := impl.GoodShare(list)
		if impl.GoodShare(withCheck(list, true)) < share {
			t.Fatalf("GoodShare of %v falls with a good result", list)
		}
		if impl.GoodShare(withCheck(list, false)) > share {
			t.Fatalf("GoodShare of %v grows with a bad result", list)
		}
	}
}

func TestChecksAreNotChanged(t *testing.T) {
	for _, list := range someChecks() {
		before := append([]bool{}, list...)
		first := impl.GoodPath(list, 2, 2)
		again := copyOf(first)
		for i := range first {
			first[i] = -77
		}
		_ = append(first, -77)
		if !sameNumbers(impl.GoodPath(list, 2, 2), again) {
			t.Fatalf("GoodPath of %v is another one the second time", list)
		}
		impl.LastRun(list)
		impl.IsGood(list, 2, 2)
		impl.GoodShare(list)
		for i := range before {
			if list[i] != before[i] {
				t.Fatalf("%v becomes %v", before, list)
			}
		}
	}
}
