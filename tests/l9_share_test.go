package tests

import (
	"testing"

	"loop.example/connectionpool/impl"
)

// mostLists returns how many each owner may have: none, few, all, and different numbers.
func mostLists() [][]int {
	return [][]int{
		{0, 0, 0, 0, 0},
		{1, 1, 1, 1, 1},
		{20, 20, 20, 20, 20},
		{3, 3, 3, 0, 1},
		{5, 4, 3, 2, 1},
		{0, 1, 2, 3, 4},
		{20, 0, 1, 0, 7},
		{2, 9, 2, 9, 2},
	}
}

// shareOf returns shares of which at most some are given, to some owners more often than to others.
func shareOf(total int, most []int, given int, step int) impl.Share {
	has := make([]int, impl.MaxOwner)
	for i := 0; i < 60; i++ {
		owner := i * (i + step) % impl.MaxOwner
		if sumByHand(has) < given && has[owner] < most[owner] {
			has[owner]++
		}
	}
	return impl.Share{Total: total, Most: copyOf(most), Has: has}
}

// manyShares returns valid shares of which nobody has any, some are given, or as many as can be.
func manyShares() []impl.Share {
	var out []impl.Share
	for _, most := range mostLists() {
		for _, total := range []int{0, 1, 2, 6, 13, 19, 20} {
			out = append(out, shareOf(total, most, 0, 0))
			for step := 0; step < impl.MaxOwner; step++ {
				out = append(out, shareOf(total, most, total/2, step), shareOf(total, most, total, step))
			}
		}
	}
	return out
}

// wrongShares returns shares that are not valid, each for one reason alone, where that can be.
func wrongShares() []impl.Share {
	none := []int{0, 0, 0, 0, 0}
	most := []int{3, 3, 3, 0, 20}
	return []impl.Share{
		{},
		{Total: 6},
		{Total: 6, Most: most},
		{Total: 6, Has: none},
		{Total: -1, Most: most, Has: none},
		{Total: 21, Most: most, Has: none},
		{Total: minInt, Most: most, Has: none},
		{Total: maxInt, Most: most, Has: none},
		{Total: 6, Most: most[:4], Has: none},
		{Total: 6, Most: most, Has: none[:4]},
		{Total: 6, Most: most[:4], Has: none[:4]},
		{Total: 6, Most: copyOf(most, 0), Has: none},
		{Total: 6, Most: most, Has: copyOf(none, 0)},
		{Total: 6, Most: copyOf(most, 0), Has: copyOf(none, 0)},
		{Total: 6, Most: make([]int, 100000), Has: make([]int, 100000)},
		{Total: 6, Most: []int{-1, 3, 3, 0, 20}, Has: none},
		{Total: 6, Most: []int{3, 3, 3, 0, -1}, Has: none},
		{Total: 6, Most: []int{3, 3, 21, 0, 20}, Has: none},
		{Total: 6, Most: []int{3, 3, 3, 0, 21}, Has: none},
		{Total: 6, Most: []int{3, 3, minInt, 0, 20}, Has: none},
		{Total: 6, Most: []int{3, 3, maxInt, 0, 20}, Has: none},
		{Total: 6, Most: most, Has: []int{-1, 0, 0, 0, 0}},
		{Total: 6, Most: most, Has: []int{0, 0, 2, 0, -1}},
		{Total: 6, Most: most, Has: []int{minInt, 0, 0, 0, 0}},
		{Total: 6, Most: most, Has: []int{4, 0, 0, 0, 0}},
		{Total: 6, Most: most, Has: []int{0, 0, 0, 1, 0}},
		{Total: 20, Most: most, Has: []int{0, 0, 0, 0, 21}},
		{Total: 6, Most: most, Has: []int{0, 0, maxInt, 0, 0}},
		{Total: 6, Most: most, Has: []int{maxInt, maxInt, 2, 0, 0}},
		{Total: 6, Most: most, Has: []int{0, 0, 0, 0, 7}},
		{Total: 6, Most: most, Has: []int{3, 3, 1, 0, 0}},
		{Total: 0, Most: most, Has: []int{0, 0, 1, 0, 0}},
		{Total: 20, Most: most, Has: []int{3, 3, 3, 0, 12}},
		{Total: 20, Most: []int{20, 20, 20, 20, 20}, Has: []int{20, 0, 0, 1, 0}},
		{Total: minInt, Most: []int{minInt, minInt, minInt, minInt, minInt}, Has: []int{minInt, minInt, minInt, minInt, minInt}},
		{Total: maxInt, Most: []int{maxInt, maxInt, maxInt, maxInt, maxInt}, Has: []int{maxInt, maxInt, maxInt, maxInt, maxInt}},
	}
}

// shortAsks returns all lists of at most three owners who ask.
func shortAsks() [][]int {
	out := [][]int{nil}
	for i := 0; i < len(out); i++ {
		if len(out[i]) == 3 {
			return out
		}
		for owner := 0; owner < impl.MaxOwner; owner++ {
			out = append(out, copyOf(out[i], owner))
		}
	}
	return out
}

// longAsks returns lists of up to MaxLine owners who ask, most of them several times.
func longAsks() [][]int {
	var out [][]int
	for step := 0; step < 10; step++ {
		var asks []int
		for i := 0; i < impl.MaxLine; i++ {
			asks = append(asks, (i*(step%4+1)+i*i/3+step)%impl.MaxOwner)
		}
		out = append(out, asks[:5], asks[:8], asks)
	}
	for owner := 0; owner < impl.MaxOwner; owner++ {
		asks := make([]int, impl.MaxLine)
		for i := range asks {
			asks[i] = owner
		}
		out = append(out, asks)
	}
	return out
}

// manyAsks returns short and long lists of owners who ask.
func manyAsks() [][]int {
	return append(shortAsks(), longAsks()...)
}

// wrongAsks returns lists of numbers that are not all owners, or too many.
func wrongAsks() [][]int {
	out := [][]int{make([]int, 13), make([]int, 100000), copyOf(make([]int, 11), 5), {0, 1, 2, 3, 4, 5}}
	for _, owner := range oddOwners() {
		out = append(out, []int{owner}, []int{owner, 0}, []int{0, owner}, []int{1, owner, 4})
	}
	return out
}

// sumByHand returns the sum of numbers.
func sumByHand(list []int) int {
	sum := 0
	for _, n := range list {
		sum += n
	}
	return sum
}

// sameShare reports whether two shares are the same.
func sameShare(a impl.Share, b impl.Share) bool {
	return a.Total == b.Total && sameNumbers(a.Most, b.Most) && sameNumbers(a.Has, b.Has)
}

// withHas returns shares of which an owner has a number more.
func withHas(s impl.Share, owner int, more int) impl.Share {
	has := copyOf(s.Has)
	has[owner] += more
	return impl.Share{Total: s.Total, Most: copyOf(s.Most), Has: has}
}

// withoutPlace returns a list without the number at a place.
func withoutPlace(list []int, place int) []int {
	return copyOf(list[:place], list[place+1:]...)
}

// validShareByHand reports whether shares of MaxOwner owners are valid, with the numbers of the document written out.
func validShareByHand(s impl.Share) bool {
	for owner := 0; owner < 5; owner++ {
		if s.Most[owner] < 0 || s.Most[owner] > 20 || s.Has[owner] < 0 || s.Has[owner] > s.Most[owner] {
			return false
		}
	}
	return s.Total >= 0 && s.Total <= 20 && sumByHand(s.Has) <= s.Total
}

// nextByOwner returns the place of who gets next, by looking at one number of shares after the other for the first one who has it.
func nextByOwner(s impl.Share, asks []int) int {
	if sumByHand(s.Has) == s.Total {
		return -1
	}
	for has := 0; has < 20; has++ {
		for place, owner := range asks {
			if s.Has[owner] == has && s.Most[owner] > has {
				return place
			}
		}
	}
	return -1
}

// givenByHand returns to whom shares give, one after the other, and what is left of the shares and of the asks.
func givenByHand(s impl.Share, asks []int) ([]int, impl.Share, []int) {
	var out []int
	open := copyOf(asks)
	for place := nextByOwner(s, open); place != -1; place = nextByOwner(s, open) {
		out = append(out, open[place])
		s = withHas(s, open[place], 1)
		open = withoutPlace(open, place)
	}
	return out, s, open
}

// countOf returns how often a number is in a list.
func countOf(list []int, number int) int {
	return len(list) - len(withoutNumber(list, number))
}

func TestShareConstants(t *testing.T) {
	if impl.MaxTotal != 20 || impl.MaxOwner != 5 || impl.MaxLine != 12 {
		t.Error("MaxTotal, MaxOwner or MaxLine")
	}
}

func TestValidShare(t *testing.T) {
	for _, s := range manyShares() {
		if !impl.ValidShare(s) {
			t.Fatalf("ValidShare of %v is false", s)
		}
	}
	for _, s := range wrongShares() {
		if impl.ValidShare(s) {
			t.Errorf("ValidShare of %d, %d numbers and %d numbers is true", s.Total, len(s.Most), len(s.Has))
		}
	}
}

func TestValidShareNumberByNumber(t *testing.T) {
	valid, wrong := 0, 0
	for _, most := range append(mostLists(), []int{0, 1, -1, 0, 0}, []int{1, 1, 1, 1, 21}) {
		for total := -1; total <= 22; total++ {
			for owner := 0; owner < impl.MaxOwner; owner++ {
				for has := -1; has <= 22; has++ {
					s := withHas(impl.Share{Total: total, Most: most, Has: make([]int, impl.MaxOwner)}, owner, has)
					s = withHas(s, (owner+1)%impl.MaxOwner, 1)
					if impl.ValidShare(s) != validShareByHand(s) {
						t.Fatalf("ValidShare of %v = %v", s, impl.ValidShare(s))
					}
					if validShareByHand(s) {
						valid++
					} else {
						wrong++
					}
				}
			}
		}
	}
	if valid == 0 || wrong == 0 {
		t.Errorf("%d shares are valid, and %d are not", valid, wrong)
	}
}

func TestWrongSharesHaveFixedResults(t *testing.T) {
	for _, s := range wrongShares() {
		for _, asks := range [][]int{nil, {0}, {2, 0, 1}, {4, 4}, {-1}} {
			checkUngiven(t, s, asks)
		}
		for owner := -1; owner <= impl.MaxOwner; owner++ {
			checkUnchanged(t, s, owner)
		}
	}
}

func TestOddAsksHaveFixedResults(t *testing.T) {
	for _, s := range manyShares() {
		for _, asks := range wrongAsks() {
			checkUngiven(t, s, asks)
		}
		for _, owner := range oddOwners() {
			checkUnchanged(t, s, owner)
		}
	}
}

// checkUngiven checks that shares give nothing to those who ask.
func checkUngiven(t *testing.T, s impl.Share, asks []int) {
	if impl.NextOwner(s, asks) != -1 || len(impl.GiveAll(s, asks)) != 0 {
		t.Fatalf("NextOwner or GiveAll of a total of %d with %d asks = %d, %v", s.Total, len(asks), impl.NextOwner(s, asks), impl.GiveAll(s, asks))
	}
}

// checkUnchanged checks what GiveShare and TakeShare return for arguments that are not valid.
func checkUnchanged(t *testing.T, s impl.Share, owner int) {
	if out, ok := impl.GiveShare(s, owner); ok || !sameShare(out, impl.Share{}) {
		t.Fatalf("GiveShare of a total of %d to %d = %v, %v", s.Total, owner, out, ok)
	}
	if out, ok := impl.TakeShare(s, owner); ok || !sameShare(out, impl.Share{}) {
		t.Fatalf("TakeShare of a total of %d from %d = %v, %v", s.Total, owner, out, ok)
	}
}

func TestNextOwnerByHand(t *testing.T) {
	most := []int{3, 3, 3, 0, 1}
	for _, x := range []struct {
		s    impl.Share
		asks []int
		want int
	}{
		// The place in asks is told, and not the owner.
		{impl.Share{Total: 6, Most: most, Has: []int{1, 0, 2, 0, 0}}, []int{2, 0, 1}, 2},
		{impl.Share{Total: 6, Most: most, Has: []int{1, 0, 2, 0, 0}}, []int{2, 0}, 1},
		// Of equal ones the first one who asks is next, not the least owner.
		{impl.Share{Total: 6, Most: most, Has: []int{1, 0, 1, 0, 0}}, []int{2, 0}, 0},
		{impl.Share{Total: 6, Most: most, Has: []int{1, 0, 2, 0, 0}}, []int{2, 4, 1, 4}, 1},
		{impl.Share{Total: 6, Most: most, Has: []int{1, 0, 2, 0, 0}}, []int{2, 2, 0, 0}, 2},
		// Owners with enough are passed over, though they have less.
		{impl.Share{Total: 6, Most: most, Has: []int{1, 2, 0, 0, 1}}, []int{3, 4, 1, 0}, 3},
		{impl.Share{Total: 9, Most: most, Has: []int{3, 3, 2, 0, 0}}, []int{3, 0, 1, 2}, 3},
		{impl.Share{Total: 9, Most: most, Has: []int{3, 3, 2, 0, 1}}, []int{4, 3, 0, 1}, -1},
		// Who has less, but does not ask, does not matter.
		{impl.Share{Total: 6, Most: most, Has: []int{0, 2, 0, 0, 0}}, []int{1}, 0},
		// All are given.
		{impl.Share{Total: 6, Most: most, Has: []int{2, 2, 2, 0, 0}}, []int{0, 4}, -1},
		{impl.Share{Total: 7, Most: most, Has: []int{2, 2, 2, 0, 0}}, []int{0, 4}, 1},
		{impl.Share{Total: 0, Most: most, Has: []int{0, 0, 0, 0, 0}}, []int{0, 1, 2}, -1},
		// Nobody asks.
		{impl.Share{Total: 6, Most: most, Has: []int{0, 0, 0, 0, 0}}, nil, -1},
		// As many as can be, and the last one alone may have more.
		{impl.Share{Total: 6, Most: most, Has: []int{3, 0, 0, 0, 0}}, []int{0, 0, 0, 0, 0, 0, 3, 3, 3, 3, 3, 4}, 11},
		{impl.Share{Total: 20, Most: []int{20, 0, 0, 0, 0}, Has: []int{19, 0, 0, 0, 0}}, []int{1, 0}, 1},
		{impl.Share{Total: 20, Most: []int{20, 20, 0, 0, 0}, Has: []int{20, 0, 0, 0, 0}}, []int{1, 0}, -1},
	} {
		if out := impl.NextOwner(x.s, x.asks); out != x.want {
			t.Errorf("NextOwner of %v, %v = %d, not %d", x.s, x.asks, out, x.want)
		}
	}
}

func TestGiveAllByHand(t *testing.T) {
	most := []int{3, 3, 3, 0, 1}
	for _, x := range []struct {
		s    impl.Share
		asks []int
		want []int
	}{
		// Who has least gets until others have as little.
		{impl.Share{Total: 20, Most: most, Has: []int{2, 0, 1, 0, 0}}, []int{0, 2, 2, 1, 1, 1}, []int{1, 2, 1, 0, 2, 1}},
		// Of equal ones the first ask that is still open is next.
		{impl.Share{Total: 20, Most: most, Has: []int{0, 1, 0, 0, 0}}, []int{0, 1, 0}, []int{0, 1, 0}},
		{impl.Share{Total: 20, Most: most, Has: []int{0, 1, 0, 0, 0}}, []int{0, 0, 1}, []int{0, 0, 1}},
		{impl.Share{Total: 20, Most: most, Has: []int{0, 0, 0, 0, 0}}, []int{2, 1, 0, 0, 1, 2}, []int{2, 1, 0, 0, 1, 2}},
		{impl.Share{Total: 20, Most: most, Has: []int{0, 0, 0, 0, 0}}, []int{2, 2, 2, 1, 0}, []int{2, 1, 0, 2, 2}},
		// Owners with enough get no more, and those who may have none get none.
		{impl.Share{Total: 20, Most: most, Has: []int{2, 3, 0, 0, 0}}, []int{0, 0, 1, 3, 4, 4}, []int{4, 0}},
		{impl.Share{Total: 20, Most: most, Has: []int{3, 3, 0, 0, 1}}, []int{0, 1, 3, 4}, nil},
		// Only what is left is given.
		{impl.Share{Total: 4, Most: most, Has: []int{1, 0, 0, 0, 0}}, []int{0, 0, 1, 1, 2}, []int{1, 2, 0}},
		{impl.Share{Total: 1, Most: most, Has: []int{1, 0, 0, 0, 0}}, []int{1, 2}, nil},
		{impl.Share{Total: 0, Most: most, Has: []int{0, 0, 0, 0, 0}}, []int{1, 2}, nil},
		// Nobody asks.
		{impl.Share{Total: 20, Most: most, Has: []int{0, 0, 0, 0, 0}}, nil, nil},
		// All twelve asks get theirs.
		{impl.Share{Total: 20, Most: []int{20, 0, 0, 0, 0}, Has: []int{8, 0, 0, 0, 0}}, make([]int, 12), make([]int, 12)},
		{impl.Share{Total: 20, Most: []int{20, 0, 0, 0, 0}, Has: []int{9, 0, 0, 0, 0}}, make([]int, 12), make([]int, 11)},
	} {
		if out := impl.GiveAll(x.s, x.asks); !sameNumbers(out, x.want) {
			t.Errorf("GiveAll of %v, %v = %v, not %v", x.s, x.asks, out, x.want)
		}
	}
}

func TestNextOwnerStepByStep(t *testing.T) {
	for _, s := range manyShares() {
		for _, asks := range manyAsks() {
			if out := impl.NextOwner(s, asks); out != nextByOwner(s, asks) {
				t.Fatalf("NextOwner of %v, %v = %d, not %d", s, asks, out, nextByOwner(s, asks))
			}
		}
	}
}

func TestGiveAllStepByStep(t *testing.T) {
	for _, s := range manyShares() {
		for _, asks := range manyAsks() {
			want, _, _ := givenByHand(s, asks)
			if out := impl.GiveAll(s, asks); !sameNumbers(out, want) {
				t.Fatalf("GiveAll of %v, %v = %v, not %v", s, asks, out, want)
			}
		}
	}
}

func TestP67SharesCanBeUnused(t *testing.T) {
	for _, s := range manyShares() {
		unused := impl.Share{Total: s.Total, Most: copyOf(s.Most), Has: make([]int, impl.MaxOwner)}
		if !impl.ValidShare(unused) {
			t.Fatalf("ValidShare of %v is false", unused)
		}
	}
}

func TestP68WhoHasLeastIsNext(t *testing.T) {
	found := 0
	for _, s := range manyShares() {
		for _, asks := range manyAsks() {
			place := impl.NextOwner(s, asks)
			if place == -1 {
				continue
			}
			found++
			if place < 0 || place >= len(asks) {
				t.Fatalf("NextOwner of %v, %v = %d", s, asks, place)
			}
			for _, owner := range asks {
				if s.Has[owner] < s.Most[owner] && s.Has[owner] < s.Has[asks[place]] {
					t.Fatalf("NextOwner of %v, %v = %d, and the owner %d has less", s, asks, place, owner)
				}
			}
			if _, ok := impl.GiveShare(s, asks[place]); !ok {
				t.Fatalf("NextOwner of %v, %v = %d, and GiveShare to it fails", s, asks, place)
			}
		}
	}
	if found == 0 {
		t.Error("nobody is ever next")
	}
}

func TestP69IfNobodyIsNextNothingCanBeGiven(t *testing.T) {
	none := 0
	for _, s := range manyShares() {
		for _, asks := range manyAsks() {
			if impl.NextOwner(s, asks) != -1 {
				continue
			}
			none++
			for _, owner := range asks {
				if out, ok := impl.GiveShare(s, owner); ok {
					t.Fatalf("NextOwner of %v, %v is -1, and GiveShare to %d = %v", s, asks, owner, out)
				}
			}
		}
	}
	if none == 0 {
		t.Error("somebody is always next")
	}
}

func TestP70GivenSharesCanBeGivenBack(t *testing.T) {
	given := 0
	for _, s := range manyShares() {
		for owner := 0; owner < impl.MaxOwner; owner++ {
			more, ok := impl.GiveShare(s, owner)
			if !ok {
				continue
			}
			given++
			if !sameShare(more, withHas(s, owner, 1)) {
				t.Fatalf("GiveShare of %v to %d = %v", s, owner, more)
			}
			if back, ok := impl.TakeShare(more, owner); !ok || !sameShare(back, s) {
				t.Fatalf("TakeShare of %v from %d = %v, %v", more, owner, back, ok)
			}
		}
	}
	if given == 0 {
		t.Error("nothing is ever given")
	}
}

func TestP71SharesAreBounded(t *testing.T) {
	enough, all := 0, 0
	for _, s := range manyShares() {
		for owner := 0; owner < impl.MaxOwner; owner++ {
			hasMost := s.Has[owner] == s.Most[owner]
			haveTotal := sumByHand(s.Has) == s.Total
			out, ok := impl.GiveShare(s, owner)
			if ok == (hasMost || haveTotal) {
				t.Fatalf("GiveShare of %v to %d = %v, %v", s, owner, out, ok)
			}
			if !ok && !sameShare(out, impl.Share{}) {
				t.Fatalf("GiveShare of %v to %d fails with %v", s, owner, out)
			}
			if hasMost && !haveTotal {
				enough++
			}
			if haveTotal && !hasMost {
				all++
			}
		}
	}
	if enough == 0 || all == 0 {
		t.Errorf("GiveShare fails %d times for Most alone, and %d times for Total alone", enough, all)
	}
}

func TestP72TakenSharesCanBeGivenAgain(t *testing.T) {
	taken, none := 0, 0
	for _, s := range manyShares() {
		for owner := 0; owner < impl.MaxOwner; owner++ {
			less, ok := impl.TakeShare(s, owner)
			if ok != (s.Has[owner] > 0) {
				t.Fatalf("TakeShare of %v from %d = %v, %v", s, owner, less, ok)
			}
			if !ok {
				none++
				if !sameShare(less, impl.Share{}) {
					t.Fatalf("TakeShare of %v from %d fails with %v", s, owner, less)
				}
				continue
			}
			taken++
			if again, ok := impl.GiveShare(less, owner); !ok || !sameShare(again, s) {
				t.Fatalf("GiveShare of %v to %d = %v, %v", less, owner, again, ok)
			}
		}
	}
	if taken == 0 || none == 0 {
		t.Errorf("TakeShare succeeds %d times, and fails %d times", taken, none)
	}
}

// giveEach returns shares after owners got 1 each, one after the other, and the asks that are still open then.
func giveEach(t *testing.T, s impl.Share, asks []int, owners []int) (impl.Share, []int) {
	out := s
	open := copyOf(asks)
	for _, owner := range owners {
		more, ok := impl.GiveShare(out, owner)
		if !ok || countOf(open, owner) == 0 {
			t.Fatalf("GiveAll of %v, %v = %v", s, asks, owners)
		}
		out = more
		for place := range open {
			if open[place] == owner {
				open = withoutPlace(open, place)
				break
			}
		}
	}
	return out, open
}

func TestP73EverythingIsGivenThatCanBe(t *testing.T) {
	closed, open := 0, 0
	for _, s := range manyShares() {
		for _, asks := range manyAsks() {
			owners := impl.GiveAll(s, asks)
			after, rest := giveEach(t, s, asks, owners)
			if impl.NextOwner(after, rest) != -1 {
				t.Fatalf("GiveAll of %v, %v = %v, and %d of %v is still next", s, asks, owners, impl.NextOwner(after, rest), rest)
			}
			closed += len(owners)
			open += len(rest)
		}
	}
	if closed == 0 || open == 0 {
		t.Errorf("%d asks are closed, and %d stay open", closed, open)
	}
}

func TestP74WhoHasLessGetsFirst(t *testing.T) {
	rises := 0
	for _, s := range manyShares() {
		for _, asks := range manyAsks() {
			has := copyOf(s.Has)
			before := 0
			for i, owner := range impl.GiveAll(s, asks) {
				if has[owner] < before {
					t.Fatalf("GiveAll of %v, %v = %v, where %d has %d", s, asks, impl.GiveAll(s, asks), owner, has[owner])
				}
				if i > 0 && has[owner] > before {
					rises++
				}
				before = has[owner]
				has[owner]++
			}
		}
	}
	if rises == 0 {
		t.Error("what the owners have never rises")
	}
}

func TestP156SharesCanBeLess(t *testing.T) {
	for _, s := range manyShares() {
		for owner := 0; owner < impl.MaxOwner; owner++ {
			if s.Has[owner] == 0 {
				continue
			}
			less, ok := impl.TakeShare(s, owner)
			if !ok || !impl.ValidShare(less) || !sameShare(less, withHas(s, owner, -1)) {
				t.Fatalf("TakeShare of %v from %d = %v, %v", s, owner, less, ok)
			}
		}
	}
}

func TestP157WhoAsksAloneIsNextOrHasEnough(t *testing.T) {
	next, enough := 0, 0
	for _, s := range manyShares() {
		for owner := 0; owner < impl.MaxOwner; owner++ {
			place := impl.NextOwner(s, []int{owner})
			_, ok := impl.GiveShare(s, owner)
			if ok && place != 0 || !ok && place != -1 {
				t.Fatalf("NextOwner of %v, %d = %d, and GiveShare tells %v", s, owner, place, ok)
			}
			if ok {
				next++
			} else {
				enough++
			}
		}
	}
	if next == 0 || enough == 0 {
		t.Errorf("%d who ask alone are next, and %d are not", next, enough)
	}
}

func TestP158NobodyGetsMoreThanTheyAskFor(t *testing.T) {
	asMany, fewer := 0, 0
	for _, s := range manyShares() {
		left := s.Total - sumByHand(s.Has)
		for _, asks := range manyAsks() {
			owners := impl.GiveAll(s, asks)
			if len(owners) > left {
				t.Fatalf("GiveAll of %v, %v = %v, and %d are left", s, asks, owners, left)
			}
			for owner := 0; owner < impl.MaxOwner; owner++ {
				got, wanted := countOf(owners, owner), countOf(asks, owner)
				if got > wanted || got > s.Most[owner]-s.Has[owner] {
					t.Fatalf("GiveAll of %v, %v = %v, where %d gets too much", s, asks, owners, owner)
				}
				if got == wanted {
					asMany++
				} else {
					fewer++
				}
			}
		}
	}
	if asMany == 0 || fewer == 0 {
		t.Errorf("%d times owners get what they ask for, and %d times less", asMany, fewer)
	}
}

// spoilNumbers overwrites all numbers of a list, and appends to it.
func spoilNumbers(list []int) {
	for i := range list {
		list[i] = -77
	}
	_ = append(list, -77)
}

func TestSharesShareNoMemory(t *testing.T) {
	// What lies behind each list is memory of the arguments, too.
	most := []int{3, 3, 3, 0, 1, 9, 9}
	has := []int{1, 0, 2, 0, 0, 9, 9}
	asks := []int{0, 0, 1, 1, 2, 9, 9}
	s := impl.Share{Total: 6, Most: most[:5], Has: has[:5]}
	more, _ := impl.GiveShare(s, 4)
	less, _ := impl.TakeShare(s, 2)
	impl.ValidShare(s)
	impl.NextOwner(s, asks[:5])
	for _, list := range [][]int{more.Most, more.Has, less.Most, less.Has, impl.GiveAll(s, asks[:5])} {
		if len(list) == 0 {
			t.Error("a result is empty")
		}
		spoilNumbers(list)
	}
	if !sameNumbers(most, []int{3, 3, 3, 0, 1, 9, 9}) || !sameNumbers(has, []int{1, 0, 2, 0, 0, 9, 9}) || !sameNumbers(asks, []int{0, 0, 1, 1, 2, 9, 9}) {
		t.Errorf("the arguments become %v, %v and %v", most, has, asks)
	}
	if again := impl.GiveAll(s, asks[:5]); !sameNumbers(again, []int{1, 0, 1}) {
		t.Errorf("GiveAll the second time = %v", again)
	}
}

func TestShareResultsStayWhenTheArgumentChanges(t *testing.T) {
	for _, s := range manyShares() {
		before := impl.Share{Total: s.Total, Most: copyOf(s.Most), Has: copyOf(s.Has)}
		asks := []int{0, 1, 2, 3, 4, 4}
		more, given := impl.GiveShare(s, 1)
		less, taken := impl.TakeShare(s, 1)
		owners := impl.GiveAll(s, asks)
		spoilNumbers(s.Most)
		spoilNumbers(s.Has)
		spoilNumbers(asks)
		if given && !sameShare(more, withHas(before, 1, 1)) || taken && !sameShare(less, withHas(before, 1, -1)) {
			t.Fatalf("results of %v become %v and %v", before, more, less)
		}
		if want, _, _ := givenByHand(before, []int{0, 1, 2, 3, 4, 4}); !sameNumbers(owners, want) {
			t.Fatalf("GiveAll of %v becomes %v", before, owners)
		}
	}
}

func TestShareResultsHaveSeparateLists(t *testing.T) {
	// One list stands for both, as where each owner has all that they may have.
	both := []int{1, 0, 2, 0, 1}
	s := impl.Share{Total: 6, Most: both, Has: both}
	less, ok := impl.TakeShare(s, 2)
	if !ok || !sameNumbers(less.Most, []int{1, 0, 2, 0, 1}) || !sameNumbers(less.Has, []int{1, 0, 1, 0, 1}) {
		t.Errorf("TakeShare of %v = %v, %v", s, less, ok)
	}
	spoilNumbers(less.Has)
	if !sameNumbers(less.Most, []int{1, 0, 2, 0, 1}) || !sameNumbers(both, []int{1, 0, 2, 0, 1}) {
		t.Errorf("Most becomes %v, and the argument %v", less.Most, both)
	}
}
