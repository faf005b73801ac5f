package tests

import (
	"testing"

	"loop.example/connectionpool/impl"
)

// stairs returns leases of which each begins a step after the one before, with so many connections in turns.
func stairs(many int, conns int, step int) []impl.Lease {
	var out []impl.Lease
	for i := 0; i < many; i++ {
		out = append(out, impl.Lease{Conn: i % conns, Owner: i % impl.MaxOwner, From: i * step, Until: (i + conns) * step})
	}
	return out
}

// turnedLeases returns leases in reverse order.
func turnedLeases(list []impl.Lease) []impl.Lease {
	var out []impl.Lease
	for i := len(list) - 1; i >= 0; i-- {
		out = append(out, list[i])
	}
	return out
}

// scatteredLeases returns leases that are valid and in no order, many with equal times, in a pattern of a number.
func scatteredLeases(pattern int) []impl.Lease {
	var out []impl.Lease
	for i := 0; i < 40 && len(out) < impl.MaxLeases; i++ {
		from := (i * (pattern*5 + 3) % 11) * 3
		x := impl.Lease{
			Conn:  (i*(pattern%5+1) + pattern) % impl.MaxConn,
			Owner: (i + pattern) % impl.MaxOwner,
			From:  from,
			Until: from + 1 + i*(pattern%4+1)%9,
		}
		if freeByHand(out, x.Conn, x.From, x.Until) {
			out = append(out, x)
		}
	}
	return out
}

// sizeLists returns valid lists of leases, with those of validLists and longer ones in several orders.
func sizeLists() [][]impl.Lease {
	out := validLists()
	for _, list := range longLists() {
		out = append(out, turnedLeases(list))
	}
	for conns := 1; conns <= impl.MaxConn; conns++ {
		for _, step := range []int{1, 7, 50} {
			list := stairs(12, conns, step)
			out = append(out, list, turnedLeases(list), list[:conns])
		}
	}
	for pattern := 0; pattern < 60; pattern++ {
		list := scatteredLeases(pattern)
		out = append(out, list, turnedLeases(list))
	}
	return out
}

// leasedAt returns how many leases have a time.
func leasedAt(list []impl.Lease, now int) int {
	count := 0
	for _, x := range list {
		if x.From <= now && now < x.Until {
			count++
		}
	}
	return count
}

// mostByHand returns the greatest number of leases that have a time, looked for at one time after the other.
func mostByHand(list []impl.Lease) int {
	most := 0
	for now := 0; now < impl.MaxClock; now++ {
		if leasedAt(list, now) > most {
			most = leasedAt(list, now)
		}
	}
	return most
}

// meanByHand returns 100 times the leases at all times before one, divided by it.
func meanByHand(list []impl.Lease, until int) int {
	sum := 0
	for now := 0; now < until; now++ {
		sum += leasedAt(list, now)
	}
	return sum * 100 / until
}

// packedByHand returns leases with other connections: from one time to the next, those that begin then, in order, get the least free one.
func packedByHand(list []impl.Lease) []impl.Lease {
	out := withoutLease(list, -1)
	var before []impl.Lease
	for now := 0; now < impl.MaxClock; now++ {
		for i, x := range list {
			if x.From != now {
				continue
			}
			conn := 0
			for !freeByHand(before, conn, x.From, x.Until) {
				conn++
			}
			out[i].Conn = conn
			before = append(before, out[i])
		}
	}
	return out
}

// sizeByHand returns the least of 1..6 connections that are enough, -1 if none are.
func sizeByHand(mean int, spare int) int {
	for size := 1; size <= 6; size++ {
		if 100*size >= mean+100*spare {
			return size
		}
	}
	return -1
}

// meanTimes returns times in 1..MaxClock until which a mean is taken.
func meanTimes() []int {
	return []int{1, 2, 3, 4, 7, 30, 80, 333, 500, 998, 999, 1000}
}

func TestMostLeasedStepByStep(t *testing.T) {
	greatest := 0
	for _, list := range sizeLists() {
		most := impl.MostLeased(list)
		if most != mostByHand(list) {
			t.Fatalf("MostLeased of %v = %d, not %d", list, most, mostByHand(list))
		}
		if most > greatest {
			greatest = most
		}
	}
	if greatest != impl.MaxConn {
		t.Errorf("the greatest MostLeased is %d", greatest)
	}
}

func TestMostLeasedOfLeasesThatTouch(t *testing.T) {
	one := impl.Lease{Conn: 0, Owner: 0, From: 0, Until: 10}
	if impl.MostLeased([]impl.Lease{one, {Conn: 1, Owner: 1, From: 10, Until: 20}}) != 1 {
		t.Error("MostLeased of leases that only touch is not 1")
	}
	if impl.MostLeased([]impl.Lease{one, {Conn: 1, Owner: 1, From: 9, Until: 20}}) != 2 {
		t.Error("MostLeased of leases with one time in common is not 2")
	}
	if impl.MostLeased([]impl.Lease{one, {Conn: 1, Owner: 0, From: 0, Until: 10}}) != 2 {
		t.Error("MostLeased of leases with equal times is not 2")
	}
	if impl.MostLeased(nil) != 0 || impl.MostLeased([]impl.Lease{}) != 0 {
		t.Error("MostLeased without leases is not 0")
	}
}

func TestWrongLeasesHaveNoSize(t *testing.T) {
	for _, list := range wrongLists() {
		if impl.MostLeased(list) != -1 {
			t.Errorf("MostLeased of %d wrong leases = %d", len(list), impl.MostLeased(list))
		}
		for _, until := range append(oddSpans(), 1, 10, 1000) {
			if impl.MeanLeased(list, until) != -1 {
				t.Errorf("MeanLeased of %d wrong leases until %d = %d", len(list), until, impl.MeanLeased(list, until))
			}
		}
		if out, ok := impl.PackLeases(list); ok || len(out) != 0 {
			t.Errorf("PackLeases of %d wrong leases = %v, %v", len(list), out, ok)
		}
	}
}

func TestP16BusyConnectionsAreDifferent(t *testing.T) {
	for _, list := range sizeLists() {
		most := impl.MostLeased(list)
		for _, now := range append(oddNumbers(), edgeTimes()...) {
			busy := impl.BusyAt(list, now)
			if !ascends(busy) || len(busy) > most {
				t.Fatalf("BusyAt of %v at %d = %v, and MostLeased is %d", list, now, busy, most)
			}
		}
		for _, x := range list {
			busy := impl.BusyAt(list, x.From)
			if !ascends(busy) || len(busy) > most {
				t.Fatalf("BusyAt of %v at %d = %v, and MostLeased is %d", list, x.From, busy, most)
			}
		}
	}
}

func TestP61AtSomeTimeMostAreLeased(t *testing.T) {
	for _, list := range sizeLists() {
		most := 0
		for _, x := range list {
			if busy := impl.BusyAt(list, x.From); len(busy) > most {
				most = len(busy)
			}
		}
		if impl.MostLeased(list) != most {
			t.Fatalf("MostLeased of %v = %d, and at most %d are busy when one begins", list, impl.MostLeased(list), most)
		}
	}
}

func TestP62MoreLeasesAreNoFewerAtOnce(t *testing.T) {
	same, less := 0, 0
	for _, list := range sizeLists() {
		most := impl.MostLeased(list)
		for i := range list {
			switch impl.MostLeased(withoutLease(list, i)) {
			case most:
				same++
			case most - 1:
				less++
			default:
				t.Fatalf("MostLeased of %v = %d, and without the lease %d %d", list, most, i, impl.MostLeased(withoutLease(list, i)))
			}
		}
	}
	if same == 0 || less == 0 {
		t.Errorf("MostLeased is the same %d times, and 1 less %d times", same, less)
	}
}

func TestMeanLeasedStepByStep(t *testing.T) {
	for i, list := range sizeLists() {
		for j, until := range meanTimes() {
			// Of the many short lists a part of the times is enough.
			if len(list) == 3 && (i+j)%4 != 0 {
				continue
			}
			if impl.MeanLeased(list, until) != meanByHand(list, until) {
				t.Fatalf("MeanLeased of %v until %d = %d, not %d", list, until, impl.MeanLeased(list, until), meanByHand(list, until))
			}
		}
	}
}

func TestMeanLeasedIsRoundedDown(t *testing.T) {
	list := []impl.Lease{{Conn: 0, Owner: 0, From: 0, Until: 2}, {Conn: 1, Owner: 0, From: 5, Until: 9}}
	for _, x := range [][]int{{1, 100}, {2, 100}, {3, 66}, {5, 40}, {6, 50}, {7, 57}, {8, 62}, {9, 66}, {10, 60}, {601, 0}, {600, 1}, {1000, 0}} {
		if impl.MeanLeased(list, x[0]) != x[1] {
			t.Errorf("MeanLeased until %d = %d, not %d", x[0], impl.MeanLeased(list, x[0]), x[1])
		}
	}
	var all []impl.Lease
	for conn := 0; conn < impl.MaxConn; conn++ {
		all = append(all, impl.Lease{Conn: conn, Owner: 1, From: 0, Until: impl.MaxClock})
	}
	for _, until := range meanTimes() {
		if impl.MeanLeased(all, until) != 600 || impl.MeanLeased(nil, until) != 0 {
			t.Errorf("MeanLeased until %d of all connections, or of none", until)
		}
	}
}

func TestMeanLeasedOfOtherTimes(t *testing.T) {
	for _, list := range append(longLists(), nil) {
		for _, until := range oddSpans() {
			if impl.MeanLeased(list, until) != -1 {
				t.Errorf("MeanLeased of %v until %d = %d", list, until, impl.MeanLeased(list, until))
			}
		}
	}
}

func TestP63OnAverageNoMoreAreLeasedThanAtMost(t *testing.T) {
	for _, list := range sizeLists() {
		for _, until := range meanTimes() {
			mean := impl.MeanLeased(list, until)
			if mean < 0 || mean > 100*impl.MostLeased(list) {
				t.Fatalf("MeanLeased of %v until %d = %d, and MostLeased is %d", list, until, mean, impl.MostLeased(list))
			}
		}
	}
}

func TestP64PackedLeasesNeedFewConnections(t *testing.T) {
	changed := 0
	for _, list := range sizeLists() {
		out, ok := impl.PackLeases(list)
		if !ok || len(out) != len(list) || !impl.ValidLeases(out) {
			t.Fatalf("PackLeases of %v = %v, %v", list, out, ok)
		}
		most := impl.MostLeased(list)
		for i, x := range out {
			if x.Owner != list[i].Owner || x.From != list[i].From || x.Until != list[i].Until {
				t.Fatalf("PackLeases of %v = %v", list, out)
			}
			if x.Conn < 0 || x.Conn >= most {
				t.Fatalf("PackLeases of %v = %v, and MostLeased is %d", list, out, most)
			}
			if x.Conn != list[i].Conn {
				changed++
			}
		}
	}
	if changed == 0 {
		t.Error("PackLeases changes nothing")
	}
}

func TestPackLeasesStepByStep(t *testing.T) {
	for _, list := range sizeLists() {
		out, ok := impl.PackLeases(list)
		if !ok || !sameLeases(out, packedByHand(list)) {
			t.Fatalf("PackLeases of %v = %v, not %v", list, out, packedByHand(list))
		}
	}
	if out, ok := impl.PackLeases(nil); !ok || len(out) != 0 {
		t.Errorf("PackLeases without leases = %v, %v", out, ok)
	}
}

func TestPackLeasesWithEqualTimesGoesByPlaces(t *testing.T) {
	list := []impl.Lease{
		{Conn: 4, Owner: 0, From: 8, Until: 9},
		{Conn: 5, Owner: 1, From: 3, Until: 4},
		{Conn: 1, Owner: 2, From: 3, Until: 9},
		{Conn: 3, Owner: 3, From: 0, Until: 3},
		{Conn: 2, Owner: 4, From: 3, Until: 5},
		{Conn: 5, Owner: 0, From: 4, Until: 8},
	}
	out, ok := impl.PackLeases(list)
	var conns []int
	for _, x := range out {
		conns = append(conns, x.Conn)
	}
	if !ok || !sameNumbers(conns, []int{0, 0, 1, 0, 2, 0}) {
		t.Errorf("PackLeases gets the connections %v", conns)
	}
}

func TestP65PackingTwiceIsPackingOnce(t *testing.T) {
	for _, list := range sizeLists() {
		once, _ := impl.PackLeases(list)
		twice, ok := impl.PackLeases(once)
		if !ok || !sameLeases(once, twice) {
			t.Fatalf("PackLeases of %v = %v, and packed again %v", list, once, twice)
		}
	}
}

func TestP66SizesAreEnough(t *testing.T) {
	found, none := 0, 0
	for mean := 0; mean <= 600; mean++ {
		for spare := 0; spare <= impl.MaxConn; spare++ {
			size := impl.SizeFor(mean, spare)
			if size != sizeByHand(mean, spare) {
				t.Fatalf("SizeFor of %d, %d = %d, not %d", mean, spare, size, sizeByHand(mean, spare))
			}
			if size == -1 {
				none++
				continue
			}
			found++
			if size < 1 || size > impl.MaxConn || 100*(size-spare) < mean {
				t.Fatalf("SizeFor of %d, %d = %d", mean, spare, size)
			}
		}
	}
	if found == 0 || none == 0 {
		t.Errorf("SizeFor finds %d sizes, and %d times none", found, none)
	}
}

func TestSizeForAtTheLimits(t *testing.T) {
	for _, x := range [][]int{{0, 0, 1}, {1, 0, 1}, {100, 0, 1}, {101, 0, 2}, {0, 1, 1}, {1, 1, 2}, {0, 6, 6}, {1, 6, -1}, {500, 1, 6}, {501, 1, -1}, {501, 0, 6}, {600, 0, 6}, {600, 6, -1}} {
		if impl.SizeFor(x[0], x[1]) != x[2] {
			t.Errorf("SizeFor of %d, %d = %d, not %d", x[0], x[1], impl.SizeFor(x[0], x[1]), x[2])
		}
	}
}

func TestSizeForOfOtherArguments(t *testing.T) {
	for _, mean := range []int{minInt, -100, -1, 601, 700, maxInt} {
		for _, spare := range []int{minInt, -1, 0, 1, 6, 7, maxInt} {
			if impl.SizeFor(mean, spare) != -1 {
				t.Errorf("SizeFor of %d, %d = %d", mean, spare, impl.SizeFor(mean, spare))
			}
		}
	}
	for mean := 0; mean <= 600; mean++ {
		for _, spare := range []int{minInt, -6, -1, 7, maxInt} {
			if impl.SizeFor(mean, spare) != -1 {
				t.Errorf("SizeFor of %d, %d = %d", mean, spare, impl.SizeFor(mean, spare))
			}
		}
	}
}

func TestP153MoreLeasesAreMoreOnAverage(t *testing.T) {
	less := 0
	for _, list := range sizeLists() {
		for _, until := range []int{1, 3, 80, 1000} {
			all := impl.MeanLeased(list, until)
			for i := range list {
				few := impl.MeanLeased(withoutLease(list, i), until)
				if few > all {
					t.Fatalf("MeanLeased of %v until %d = %d, and without the lease %d %d", list, until, all, i, few)
				}
				if few < all {
					less++
				}
			}
		}
	}
	if less == 0 {
		t.Error("MeanLeased is never less without a lease")
	}
}

func TestP154TheFirstLeaseGetsTheFirstConnection(t *testing.T) {
	greater := 0
	for _, list := range sizeLists() {
		out, ok := impl.PackLeases(list)
		if !ok {
			t.Fatalf("PackLeases of %v fails", list)
		}
		if len(out) > 0 && !meetsConn(out, 0, 0, impl.MaxClock) {
			t.Fatalf("PackLeases of %v = %v without the connection 0", list, out)
		}
		for _, x := range out {
			if x.Conn == 0 {
				continue
			}
			greater++
			if !meetsConn(out, x.Conn-1, x.From, x.Until) {
				t.Fatalf("PackLeases of %v = %v, where %v meets no one with the connection before", list, out, x)
			}
		}
	}
	if greater == 0 {
		t.Error("PackLeases gets no connection but 0")
	}
}

// meetsConn reports whether a lease of a connection has a time from a time on, less than another one.
func meetsConn(list []impl.Lease, conn int, from int, until int) bool {
	return !freeByHand(list, conn, from, until)
}

func TestP155MoreLeasesNeedMore(t *testing.T) {
	for mean := 0; mean <= 600; mean++ {
		for spare := 0; spare <= impl.MaxConn; spare++ {
			size := impl.SizeFor(mean, spare)
			if mean < 600 && size != -1 {
				if more := impl.SizeFor(mean+1, spare); more != -1 && more < size {
					t.Fatalf("SizeFor of %d, %d = %d, and with 1 more for the mean %d", mean, spare, size, more)
				}
			}
			if mean < 600 && size == -1 && impl.SizeFor(mean+1, spare) != -1 {
				t.Fatalf("SizeFor of %d, %d is -1, and with 1 more for the mean it is not", mean, spare)
			}
			if spare == impl.MaxConn || mean == 0 && spare == 0 {
				continue
			}
			more := impl.SizeFor(mean, spare+1)
			if more == -1 && size != -1 && size != impl.MaxConn || more != -1 && more != size+1 {
				t.Fatalf("SizeFor of %d, %d = %d, and with 1 more spare one %d", mean, spare, size, more)
			}
		}
	}
}

func TestPackedLeasesShareNoMemory(t *testing.T) {
	// What lies behind the list is memory of the argument, too.
	memory := [4]impl.Lease{{Conn: 4, Owner: 2, From: 3, Until: 9}, {Conn: 2, Owner: 3, From: 2, Until: 5}, {Conn: 1, Until: 1}, {}}
	given := memory
	impl.MostLeased(memory[:2])
	impl.MeanLeased(memory[:2], 4)
	out, ok := impl.PackLeases(memory[:2])
	if !ok || len(out) != 2 {
		t.Fatalf("PackLeases = %v, %v", out, ok)
	}
	for i := range out {
		out[i].Owner = -77
	}
	_ = append(out, impl.Lease{Conn: -77})
	if memory != given {
		t.Errorf("the argument becomes %v", memory)
	}
}
