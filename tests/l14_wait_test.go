package tests

import (
	"testing"

	"loop.example/connectionpool/impl"
)

// binTops returns the greatest wait of each bin.
func binTops() []int {
	return []int{0, 1, 3, 7, 15, 31, 63, 1000}
}

// binByHand returns the bin of a wait: the first one whose greatest wait is not less.
func binByHand(wait int) int {
	for bin, top := range binTops() {
		if wait <= top {
			return bin
		}
	}
	return -1
}

// oddWaits returns numbers that are no waits.
func oddWaits() []int {
	return []int{minInt, minInt + 1, -2, -1, 1001, 1002, 1023, 1024, 100000, maxInt}
}

// oddBins returns numbers that are no bins.
func oddBins() []int {
	return []int{minInt, minInt + 1, -2, -1, 8, 9, 63, 64, 65, 1000, maxInt}
}

// oddPlaces returns numbers that are no places.
func oddPlaces() []int {
	return []int{minInt, minInt + 1, -100, -1, 101, 102, 1000, maxInt}
}

// oddCountsOfBins returns numbers that are no counts of a bin.
func oddCountsOfBins() []int {
	return []int{minInt, minInt + 1, -2, -1, 101, 102, 1000, maxInt}
}

// countsWith returns counts that are all the same but for one.
func countsWith(others int, bin int, count int) []int {
	out := repeated(others, 8)
	out[bin] = count
	return out
}

// mixedCounts returns counts that a pattern tells, some of them 0.
func mixedCounts(pattern int) []int {
	var out []int
	for bin := 0; bin < 8; bin++ {
		count := (bin*pattern + pattern*pattern/3 + bin*bin) % 101
		if pattern>>(bin%5)&1 == 1 {
			count = 0
		}
		out = append(out, count)
	}
	return out
}

// manyCounts returns valid counts of which some are not 0, many of them with bins without waits.
func manyCounts() [][]int {
	var out [][]int
	for bin := 0; bin < 8; bin++ {
		for _, count := range []int{1, 2, 3, 99, 100} {
			out = append(out, countsWith(0, bin, count), countsWith(1, bin, count), countsWith(100, bin, count))
		}
		out = append(out, countsWith(7, bin, 0))
	}
	for mask := 1; mask < 256; mask += 2 {
		out = append(out, countsOfMask(mask, 1), countsOfMask(mask, 2))
	}
	for pattern := 0; pattern < 60; pattern++ {
		if list := mixedCounts(pattern); sumByHand(list) > 0 {
			out = append(out, list)
		}
	}
	return append(out, repeated(100, 8), []int{50, 0, 0, 0, 0, 0, 0, 50}, []int{99, 0, 0, 0, 1, 0, 0, 0}, []int{1, 2, 4, 8, 16, 32, 64, 100})
}

// countsOfMask returns counts of which those are not 0 whose bits are set, each one a step greater than the one before.
func countsOfMask(mask int, step int) []int {
	out := make([]int, 8)
	count := 1
	for bin := range out {
		if mask>>bin&1 == 1 {
			out[bin] = count
			count += step
		}
	}
	return out
}

// wrongCounts returns counts that are not valid, each for one reason alone, where that can be.
func wrongCounts() [][]int {
	out := [][]int{nil, {}, {1}, make([]int, 7), repeated(1, 7), make([]int, 9), repeated(1, 9), repeated(5, 16), make([]int, 100000)}
	for bin := 0; bin < 8; bin++ {
		for _, count := range oddCountsOfBins() {
			out = append(out, countsWith(0, bin, count), countsWith(3, bin, count))
		}
	}
	// Their sum is not negative, nor is it too large.
	return append(out, []int{-1, 1, 0, 0, 0, 0, 0, 0}, []int{maxInt, minInt, 1, 0, 0, 0, 0, 0}, []int{3, 3, 3, 3, 3, 3, 3, -1})
}

// manyWaits returns lists of up to MaxUses waits, among them all at the ends of bins.
func manyWaits() [][]int {
	ends := []int{0, 1, 2, 3, 4, 7, 8, 15, 16, 31, 32, 63, 64, 127, 128, 1000}
	out := [][]int{nil, {}, ends, repeated(0, 16), repeated(1000, 16), repeated(5, 16)}
	for i, wait := range ends {
		out = append(out, []int{wait}, []int{wait, wait}, ends[:i], ends[i:], joined(ends[i:], ends[:i]))
	}
	for step := 1; step <= 30; step++ {
		var list []int
		for i := 0; i < step%17; i++ {
			list = append(list, (i*step*37+i*i*step)%(1+step*33))
		}
		out = append(out, list)
	}
	return out
}

// wrongWaits returns lists of too many waits, or of numbers of which one is no wait.
func wrongWaits() [][]int {
	out := [][]int{make([]int, 17), repeated(1000, 17), make([]int, 100000)}
	for _, wait := range oddWaits() {
		out = append(out, []int{wait}, []int{wait, 0}, []int{0, wait}, []int{3, wait, 1000}, copyOf(make([]int, 15), wait))
	}
	return out
}

// countedByHand returns how many waits are in each bin, bin by bin.
func countedByHand(waits []int) []int {
	var out []int
	for bin := range binTops() {
		count := 0
		for _, wait := range waits {
			if binByHand(wait) == bin {
				count++
			}
		}
		out = append(out, count)
	}
	return out
}

// underByHand returns the greatest wait of the bin in which the last one of the least waits is that are enough for a place.
func underByHand(list []int, place int) int {
	var bins []int
	for bin, count := range list {
		bins = append(bins, repeated(bin, count)...)
	}
	need := (place*len(bins) + 99) / 100
	if need == 0 {
		return 0
	}
	return binTops()[bins[need-1]]
}

func TestWaitConstants(t *testing.T) {
	if impl.Bins != 8 || impl.MaxCount != 100 || impl.MaxUses != 16 || impl.MaxClock != 1000 {
		t.Error("Bins, MaxCount, MaxUses or MaxClock")
	}
}

func TestBinOfByHand(t *testing.T) {
	for wait := 0; wait <= 1000; wait++ {
		if impl.BinOf(wait) != binByHand(wait) {
			t.Fatalf("BinOf of %d = %d, not %d", wait, impl.BinOf(wait), binByHand(wait))
		}
	}
	for _, wait := range oddWaits() {
		if impl.BinOf(wait) != -1 {
			t.Errorf("BinOf of %d = %d", wait, impl.BinOf(wait))
		}
	}
}

func TestBinTopByHand(t *testing.T) {
	for bin, top := range binTops() {
		if impl.BinTop(bin) != top {
			t.Errorf("BinTop of %d = %d, not %d", bin, impl.BinTop(bin), top)
		}
	}
	for _, bin := range oddBins() {
		if impl.BinTop(bin) != -1 {
			t.Errorf("BinTop of %d = %d", bin, impl.BinTop(bin))
		}
	}
}

func TestValidCounts(t *testing.T) {
	for _, list := range manyCounts() {
		if !impl.ValidCounts(list) {
			t.Fatalf("ValidCounts of %v is false", list)
		}
	}
	for i, list := range wrongCounts() {
		if impl.ValidCounts(list) {
			t.Errorf("ValidCounts of %d counts, the wrong list %d, is true", len(list), i)
		}
	}
	for many := 0; many <= 20; many++ {
		if impl.ValidCounts(repeated(1, many)) != (many == 8) {
			t.Errorf("ValidCounts of %d counts is %v", many, many != 8)
		}
	}
	for count := -3; count <= 103; count++ {
		for bin := 0; bin < 8; bin++ {
			if impl.ValidCounts(countsWith(50, bin, count)) != (count >= 0 && count <= 100) {
				t.Fatalf("ValidCounts with %d in the bin %d", count, bin)
			}
		}
	}
}

func TestWrongCountsHaveFixedResults(t *testing.T) {
	good := []int{1, 0, 2, 0, 0, 0, 3, 0}
	for _, list := range wrongCounts() {
		for _, other := range [][]int{good, make([]int, 8), list} {
			checkNoSums(t, list, other)
			checkNoSums(t, other, list)
		}
		for _, place := range append(oddPlaces(), 0, 1, 50, 99, 100) {
			checkNoWait(t, list, place)
		}
	}
}

func TestWrongWaitsHaveFixedResults(t *testing.T) {
	for _, waits := range wrongWaits() {
		if out := impl.CountWaits(waits); len(out) != 0 {
			t.Errorf("CountWaits of %d waits = %v", len(waits), out)
		}
	}
}

func TestOddPlacesHaveFixedResults(t *testing.T) {
	for _, list := range manyCounts() {
		for _, place := range oddPlaces() {
			checkNoWait(t, list, place)
		}
	}
	// Bins without any waits have no wait at any place.
	for place := -1; place <= 101; place++ {
		checkNoWait(t, make([]int, 8), place)
	}
}

// checkNoSums checks what AddCounts returns where it fails.
func checkNoSums(t *testing.T, a []int, b []int) {
	if out, ok := impl.AddCounts(a, b); ok || len(out) != 0 {
		t.Fatalf("AddCounts of %d counts and %d counts = %v, %v", len(a), len(b), out, ok)
	}
}

// checkNoWait checks what WaitUnder returns where it fails.
func checkNoWait(t *testing.T, list []int, place int) {
	if out, ok := impl.WaitUnder(list, place); ok || out != 0 {
		t.Fatalf("WaitUnder of %d counts and %d = %d, %v", len(list), place, out, ok)
	}
}

func TestCountWaitsByHand(t *testing.T) {
	for _, x := range []struct {
		waits []int
		want  []int
	}{
		{nil, make([]int, 8)},
		{[]int{0}, []int{1, 0, 0, 0, 0, 0, 0, 0}},
		{[]int{1}, []int{0, 1, 0, 0, 0, 0, 0, 0}},
		{[]int{1000}, []int{0, 0, 0, 0, 0, 0, 0, 1}},
		{[]int{64, 63}, []int{0, 0, 0, 0, 0, 0, 1, 1}},
		{[]int{3, 0, 2, 4, 1, 3}, []int{1, 1, 3, 1, 0, 0, 0, 0}},
		{[]int{0, 1, 2, 3, 4, 7, 8, 15, 16, 31, 32, 63, 64, 127, 128, 1000}, []int{1, 1, 2, 2, 2, 2, 2, 4}},
		{repeated(1000, 16), []int{0, 0, 0, 0, 0, 0, 0, 16}},
		{repeated(0, 16), []int{16, 0, 0, 0, 0, 0, 0, 0}},
	} {
		if out := impl.CountWaits(x.waits); !sameNumbers(out, x.want) {
			t.Errorf("CountWaits of %v = %v, not %v", x.waits, out, x.want)
		}
	}
}

func TestAddCountsByHand(t *testing.T) {
	a := []int{1, 0, 50, 99, 100, 0, 7, 30}
	b := []int{2, 0, 50, 1, 0, 100, 8, 40}
	if out, ok := impl.AddCounts(a, b); !ok || !sameNumbers(out, []int{3, 0, 100, 100, 100, 100, 15, 70}) {
		t.Errorf("AddCounts of %v and %v = %v, %v", a, b, out, ok)
	}
	if out, ok := impl.AddCounts(a, make([]int, 8)); !ok || !sameNumbers(out, a) {
		t.Errorf("AddCounts of %v and none = %v, %v", a, out, ok)
	}
	if out, ok := impl.AddCounts(make([]int, 8), make([]int, 8)); !ok || !sameNumbers(out, make([]int, 8)) {
		t.Errorf("AddCounts of none and none = %v, %v", out, ok)
	}
	for bin := 0; bin < 8; bin++ {
		for count := 0; count <= 100; count++ {
			x, y := countsWith(0, bin, count), countsWith(0, bin, 100-count)
			if out, ok := impl.AddCounts(x, y); !ok || !sameNumbers(out, countsWith(0, bin, 100)) {
				t.Fatalf("AddCounts of %v and %v = %v, %v", x, y, out, ok)
			}
			// One more in one bin alone is too many.
			if count > 0 {
				checkNoSums(t, x, countsWith(0, bin, 101-count))
			}
		}
	}
}

func TestWaitUnderByHand(t *testing.T) {
	for _, x := range []struct {
		list  []int
		place int
		want  int
	}{
		// Of four equal bins each one has 25 per cent.
		{[]int{1, 1, 1, 1, 0, 0, 0, 0}, 0, 0},
		{[]int{1, 1, 1, 1, 0, 0, 0, 0}, 25, 0},
		{[]int{1, 1, 1, 1, 0, 0, 0, 0}, 26, 1},
		{[]int{1, 1, 1, 1, 0, 0, 0, 0}, 50, 1},
		{[]int{1, 1, 1, 1, 0, 0, 0, 0}, 51, 3},
		{[]int{1, 1, 1, 1, 0, 0, 0, 0}, 75, 3},
		{[]int{1, 1, 1, 1, 0, 0, 0, 0}, 76, 7},
		{[]int{1, 1, 1, 1, 0, 0, 0, 0}, 100, 7},
		// For the place 0 no wait is needed: the first bin is enough, also without waits.
		{[]int{0, 0, 0, 0, 0, 0, 0, 5}, 0, 0},
		{[]int{0, 0, 0, 0, 0, 0, 0, 5}, 1, 1000},
		{[]int{0, 0, 0, 0, 0, 0, 0, 5}, 100, 1000},
		{[]int{0, 0, 0, 5, 0, 0, 0, 0}, 0, 0},
		{[]int{0, 0, 0, 5, 0, 0, 0, 0}, 1, 7},
		{[]int{0, 0, 0, 5, 0, 0, 0, 0}, 100, 7},
		// Bins without waits between others are passed.
		{[]int{50, 0, 0, 0, 0, 0, 0, 50}, 50, 0},
		{[]int{50, 0, 0, 0, 0, 0, 0, 50}, 51, 1000},
		{[]int{0, 2, 0, 0, 2, 0, 1, 0}, 40, 1},
		{[]int{0, 2, 0, 0, 2, 0, 1, 0}, 41, 15},
		{[]int{0, 2, 0, 0, 2, 0, 1, 0}, 80, 15},
		{[]int{0, 2, 0, 0, 2, 0, 1, 0}, 81, 63},
		// Thirds are no whole per cent.
		{[]int{1, 1, 1, 0, 0, 0, 0, 0}, 33, 0},
		{[]int{1, 1, 1, 0, 0, 0, 0, 0}, 34, 1},
		{[]int{1, 1, 1, 0, 0, 0, 0, 0}, 66, 1},
		{[]int{1, 1, 1, 0, 0, 0, 0, 0}, 67, 3},
		{[]int{99, 0, 0, 0, 1, 0, 0, 0}, 99, 0},
		{[]int{99, 0, 0, 0, 1, 0, 0, 0}, 100, 15},
		{[]int{100, 100, 100, 100, 100, 100, 100, 100}, 12, 0},
		{[]int{100, 100, 100, 100, 100, 100, 100, 100}, 13, 1},
		{[]int{100, 100, 100, 100, 100, 100, 100, 100}, 87, 63},
		{[]int{100, 100, 100, 100, 100, 100, 100, 100}, 88, 1000},
	} {
		if out, ok := impl.WaitUnder(x.list, x.place); !ok || out != x.want {
			t.Errorf("WaitUnder of %v, %d = %d, %v, not %d", x.list, x.place, out, ok, x.want)
		}
	}
}

func TestWaitsStepByStep(t *testing.T) {
	for _, waits := range manyWaits() {
		if out := impl.CountWaits(waits); !sameNumbers(out, countedByHand(waits)) {
			t.Fatalf("CountWaits of %v = %v, not %v", waits, out, countedByHand(waits))
		}
	}
	for _, list := range manyCounts() {
		for place := 0; place <= 100; place++ {
			if out, ok := impl.WaitUnder(list, place); !ok || out != underByHand(list, place) {
				t.Fatalf("WaitUnder of %v, %d = %d, %v, not %d", list, place, out, ok, underByHand(list, place))
			}
		}
	}
}

func TestP109BinsHaveBounds(t *testing.T) {
	for wait := 0; wait <= 1000; wait++ {
		bin := impl.BinOf(wait)
		if bin < 0 || bin >= 8 || wait > impl.BinTop(bin) || bin > 0 && wait <= impl.BinTop(bin-1) {
			t.Fatalf("BinOf of %d = %d", wait, bin)
		}
	}
}

func TestP110LongerWaitsAreInNoEarlierBins(t *testing.T) {
	grows := 0
	for wait := 0; wait < 1000; wait++ {
		more := impl.BinOf(wait+1) - impl.BinOf(wait)
		if more != 0 && more != 1 {
			t.Fatalf("BinOf of %d = %d, and of 1 more %d", wait, impl.BinOf(wait), impl.BinOf(wait+1))
		}
		grows += more
	}
	if grows != 7 {
		t.Errorf("BinOf grows %d times", grows)
	}
}

func TestP111TopsAreInTheirBins(t *testing.T) {
	for bin := 0; bin < 8; bin++ {
		top := impl.BinTop(bin)
		if impl.BinOf(top) != bin {
			t.Errorf("BinOf of the top %d of %d = %d", top, bin, impl.BinOf(top))
		}
		next := bin + 1
		if next == 8 {
			next = -1
		}
		if impl.BinOf(top+1) != next {
			t.Errorf("BinOf of 1 more than the top of %d = %d", bin, impl.BinOf(top+1))
		}
	}
}

func TestP112CountsCanBeTurnedAround(t *testing.T) {
	for _, list := range manyCounts() {
		var turned []int
		for bin := 7; bin >= 0; bin-- {
			turned = append(turned, list[bin])
		}
		if !impl.ValidCounts(list) || !impl.ValidCounts(turned) {
			t.Fatalf("ValidCounts of %v or %v is false", list, turned)
		}
	}
	if !impl.ValidCounts(make([]int, 8)) {
		t.Error("ValidCounts of counts that are all 0 is false")
	}
}

func TestP113AllWaitsAreCounted(t *testing.T) {
	for _, waits := range manyWaits() {
		list := impl.CountWaits(waits)
		if !impl.ValidCounts(list) || sumByHand(list) != len(waits) {
			t.Fatalf("CountWaits of %v = %v", waits, list)
		}
		var bins []int
		for _, wait := range waits {
			bins = append(bins, impl.BinOf(wait))
		}
		for bin, count := range list {
			if count != countOf(bins, bin) {
				t.Fatalf("CountWaits of %v = %v", waits, list)
			}
		}
	}
	for wait := 0; wait <= 1000; wait++ {
		if list := impl.CountWaits([]int{wait}); !sameNumbers(list, countsWith(0, impl.BinOf(wait), 1)) {
			t.Fatalf("CountWaits of %d alone = %v", wait, list)
		}
	}
}

func TestP114CountsOfPartsAddUp(t *testing.T) {
	for _, waits := range manyWaits() {
		for first := 0; first <= len(waits); first++ {
			out, ok := impl.AddCounts(impl.CountWaits(waits[:first]), impl.CountWaits(waits[first:]))
			if !ok || !sameNumbers(out, impl.CountWaits(waits)) {
				t.Fatalf("AddCounts of two parts of %v, the first one of %d, = %v, %v", waits, first, out, ok)
			}
		}
	}
}

func TestP115CountsAreAdded(t *testing.T) {
	added, tooMany := 0, 0
	all := append(manyCounts(), make([]int, 8))
	for _, a := range all {
		for _, b := range all {
			var sums []int
			for bin := range a {
				sums = append(sums, a[bin]+b[bin])
			}
			if !impl.ValidCounts(sums) {
				tooMany++
				checkNoSums(t, a, b)
				continue
			}
			added++
			there, ok := impl.AddCounts(a, b)
			back, turned := impl.AddCounts(b, a)
			if !ok || !turned || !sameNumbers(there, sums) || !sameNumbers(back, sums) {
				t.Fatalf("AddCounts of %v and %v = %v, and in the other order %v", a, b, there, back)
			}
		}
	}
	if added == 0 || tooMany == 0 {
		t.Errorf("%d counts are added, and %d are too many", added, tooMany)
	}
}

func TestP116SoManyAreUnderIt(t *testing.T) {
	for _, list := range manyCounts() {
		all := sumByHand(list)
		for place := 0; place <= 100; place++ {
			out, ok := impl.WaitUnder(list, place)
			bin := impl.BinOf(out)
			if !ok || impl.BinTop(bin) != out || 100*sumByHand(list[:bin+1]) < place*all {
				t.Fatalf("WaitUnder of %v, %d = %d, %v", list, place, out, ok)
			}
			if bin > 0 && 100*sumByHand(list[:bin]) >= place*all {
				t.Fatalf("WaitUnder of %v, %d = %d, and the bin before is enough", list, place, out)
			}
		}
	}
}

func TestP117GreaterPlacesHaveLongerWaits(t *testing.T) {
	grows := 0
	for _, list := range manyCounts() {
		before := 0
		for place := 0; place <= 100; place++ {
			out, ok := impl.WaitUnder(list, place)
			if !ok || out < before {
				t.Fatalf("WaitUnder of %v, %d = %d, %v, and before %d", list, place, out, ok, before)
			}
			if out > before {
				grows++
			}
			before = out
		}
	}
	if grows == 0 {
		t.Error("WaitUnder never grows")
	}
}

func TestP170AllWaitsAreUnderTheLastOne(t *testing.T) {
	for _, list := range manyCounts() {
		last := 7
		for list[last] == 0 {
			last--
		}
		if out, ok := impl.WaitUnder(list, 100); !ok || out != impl.BinTop(last) {
			t.Fatalf("WaitUnder of %v, 100 = %d, %v", list, out, ok)
		}
	}
}

func TestWaitsShareNoMemory(t *testing.T) {
	// What lies behind each list is memory of the arguments, too.
	a := []int{1, 0, 2, 0, 3, 0, 4, 0, 9, 9}
	b := []int{0, 5, 0, 6, 0, 7, 0, 8, 9, 9}
	waits := []int{0, 3, 64, 1000, 9, 9}
	for _, list := range [][]int{a[:8], b[:8], make([]int, 8)} {
		there, _ := impl.AddCounts(a[:8], list)
		spoilNumbers(there)
		back, _ := impl.AddCounts(list, b[:8])
		spoilNumbers(back)
	}
	for many := 0; many <= 4; many++ {
		spoilNumbers(impl.CountWaits(waits[:many]))
	}
	impl.ValidCounts(a[:8])
	impl.WaitUnder(a[:8], 50)
	if !sameNumbers(a, []int{1, 0, 2, 0, 3, 0, 4, 0, 9, 9}) || !sameNumbers(b, []int{0, 5, 0, 6, 0, 7, 0, 8, 9, 9}) {
		t.Errorf("the counts become %v and %v", a, b)
	}
	if !sameNumbers(waits, []int{0, 3, 64, 1000, 9, 9}) {
		t.Errorf("the waits become %v", waits)
	}
	if again := impl.CountWaits(waits[:4]); !sameNumbers(again, []int{1, 0, 1, 0, 0, 0, 0, 2}) {
		t.Errorf("CountWaits the second time = %v", again)
	}
}

func TestCountResultsStayWhenTheArgumentChanges(t *testing.T) {
	for _, list := range manyCounts() {
		a, none := copyOf(list), make([]int, 8)
		there, ok := impl.AddCounts(a, none)
		back, turned := impl.AddCounts(none, a)
		spoilNumbers(a)
		spoilNumbers(none)
		if !ok || !turned || !sameNumbers(there, list) || !sameNumbers(back, list) {
			t.Fatalf("AddCounts of %v and none becomes %v and %v", list, there, back)
		}
		spoilNumbers(there)
		if !sameNumbers(back, list) {
			t.Fatalf("AddCounts of none and %v becomes %v", list, back)
		}
	}
	for _, list := range manyWaits() {
		waits := copyOf(list)
		out := impl.CountWaits(waits)
		spoilNumbers(waits)
		if !sameNumbers(out, countedByHand(list)) {
			t.Fatalf("CountWaits of %v becomes %v", list, out)
		}
	}
}
