package tests

import (
	"testing"

	"loop.example/connectionpool/impl"
)

// edgeTimes returns all times at which one of someLeases begins or ends, and times around them.
func edgeTimes() []int {
	return []int{0, 1, 2, 3, 4, 997, 998, 999, 1000}
}

// oddNumbers returns numbers that are no connection, no owner and no time.
func oddNumbers() []int {
	return []int{minInt, -1, 1001, maxInt}
}

// someLeases returns short leases that are valid by themselves, at both ends of all limits.
func someLeases() []impl.Lease {
	spans := [][]int{{0, 1}, {0, 2}, {1, 2}, {1, 3}, {2, 3}, {3, 998}, {998, 1000}, {999, 1000}}
	var out []impl.Lease
	for _, conn := range []int{0, 1, 5} {
		for i, span := range spans {
			out = append(out, impl.Lease{Conn: conn, Owner: (conn + i) % impl.MaxOwner, From: span[0], Until: span[1]})
		}
	}
	return out
}

// clashing reports whether a connection has two leases of a list at the time at which one of them begins.
func clashing(list []impl.Lease) bool {
	for i, x := range list {
		for j, y := range list {
			if i != j && x.Conn == y.Conn && y.From <= x.From && x.From < y.Until {
				return true
			}
		}
	}
	return false
}

// shortLists returns all lists of at most 3 of someLeases, whether they are valid or not.
func shortLists() [][]impl.Lease {
	some := someLeases()
	out := [][]impl.Lease{nil}
	for _, x := range some {
		out = append(out, []impl.Lease{x})
		for _, y := range some {
			out = append(out, []impl.Lease{x, y})
			for _, z := range some {
				out = append(out, []impl.Lease{x, y, z})
			}
		}
	}
	return out
}

// touching returns some leases of one connection that follow each other without a gap, backwards if told so.
func touching(conn int, many int, backwards bool) []impl.Lease {
	var out []impl.Lease
	for i := 0; i < many; i++ {
		at := i
		if backwards {
			at = many - 1 - i
		}
		out = append(out, impl.Lease{Conn: conn, Owner: i % impl.MaxOwner, From: at * 80, Until: at*80 + 80})
	}
	return out
}

// longLists returns valid lists with about as many leases as there can be.
func longLists() [][]impl.Lease {
	var full []impl.Lease
	for i := 0; i < impl.MaxLeases; i++ {
		half := i / impl.MaxConn
		full = append(full, impl.Lease{Conn: i % impl.MaxConn, Owner: i % impl.MaxOwner, From: half * 500, Until: half*500 + 500})
	}
	return [][]impl.Lease{full, full[:11], full[:6], touching(0, 12, false), touching(5, 12, true), touching(3, 11, true)}
}

// validLists returns valid lists of leases.
func validLists() [][]impl.Lease {
	out := longLists()
	for i, list := range shortLists() {
		// Of the many lists of 3 a part is enough.
		if !clashing(list) && (len(list) < 3 || i%5 == 0) {
			out = append(out, list)
		}
	}
	return out
}

// wrongLeases returns leases that are not valid by themselves.
func wrongLeases() []impl.Lease {
	return []impl.Lease{
		{Conn: -1, Owner: 0, From: 0, Until: 1},
		{Conn: 6, Owner: 0, From: 0, Until: 1},
		{Conn: minInt, Owner: 0, From: 0, Until: 1},
		{Conn: maxInt, Owner: 0, From: 0, Until: 1},
		{Conn: 0, Owner: -1, From: 0, Until: 1},
		{Conn: 0, Owner: 5, From: 0, Until: 1},
		{Conn: 0, Owner: minInt, From: 0, Until: 1},
		{Conn: 0, Owner: maxInt, From: 0, Until: 1},
		{Conn: 0, Owner: 0, From: -1, Until: 1},
		{Conn: 0, Owner: 0, From: -1, Until: 0},
		{Conn: 0, Owner: 0, From: 0, Until: 0},
		{Conn: 0, Owner: 0, From: 5, Until: 5},
		{Conn: 0, Owner: 0, From: 5, Until: 4},
		{Conn: 0, Owner: 0, From: 1000, Until: 1000},
		{Conn: 0, Owner: 0, From: 1000, Until: 1001},
		{Conn: 0, Owner: 0, From: 999, Until: 1001},
		{Conn: 0, Owner: 0, From: 0, Until: maxInt},
		{Conn: 0, Owner: 0, From: minInt, Until: maxInt},
		{Conn: 0, Owner: 0, From: minInt, Until: 1},
		{Conn: 0, Owner: 0, From: maxInt, Until: minInt},
	}
}

// wrongLists returns lists of leases that are not valid.
func wrongLists() [][]impl.Lease {
	out := [][]impl.Lease{touching(0, 13, false), make([]impl.Lease, 100000)}
	good := impl.Lease{Conn: 4, Owner: 3, From: 7, Until: 9}
	for _, x := range wrongLeases() {
		out = append(out, []impl.Lease{x}, []impl.Lease{good, x}, []impl.Lease{x, good})
	}
	out = append(out, []impl.Lease{good, good})
	out = append(out, []impl.Lease{good, {Conn: 4, Owner: 0, From: 8, Until: 10}})
	out = append(out, []impl.Lease{good, {Conn: 4, Owner: 0, From: 6, Until: 8}})
	out = append(out, []impl.Lease{{Conn: 4, Owner: 0, From: 0, Until: 1000}, good})
	out = append(out, append(touching(2, 11, false), impl.Lease{Conn: 2, Owner: 0, From: 879, Until: 880}))
	return out
}

// sameLeases reports whether two lists have the same leases in the same order.
func sameLeases(a []impl.Lease, b []impl.Lease) bool {
	if len(a) != len(b) {
		return false
	}
	for i := range a {
		if a[i] != b[i] {
			return false
		}
	}
	return true
}

// withoutLease returns a list without the lease at a place.
func withoutLease(list []impl.Lease, place int) []impl.Lease {
	var out []impl.Lease
	for i, x := range list {
		if i != place {
			out = append(out, x)
		}
	}
	return out
}

// withLease returns a list with a further lease behind all others.
func withLease(list []impl.Lease, x impl.Lease) []impl.Lease {
	return append(withoutLease(list, -1), x)
}

// freeByHand reports whether a connection is free at each time from a time on, less than another one.
func freeByHand(list []impl.Lease, conn int, from int, until int) bool {
	for now := from; now < until; now++ {
		for _, x := range list {
			if x.Conn == conn && x.From <= now && now < x.Until {
				return false
			}
		}
	}
	return true
}

func TestLeaseConstants(t *testing.T) {
	if impl.MaxConn != 6 || impl.MaxOwner != 5 || impl.MaxClock != 1000 || impl.MaxLeases != 12 {
		t.Error("MaxConn, MaxOwner, MaxClock or MaxLeases")
	}
}

func TestValidLeases(t *testing.T) {
	for _, list := range shortLists() {
		if impl.ValidLeases(list) == clashing(list) {
			t.Fatalf("ValidLeases of %v = %v", list, impl.ValidLeases(list))
		}
	}
	for _, list := range longLists() {
		if !impl.ValidLeases(list) {
			t.Errorf("ValidLeases of %v is false", list)
		}
	}
	for _, list := range wrongLists() {
		if impl.ValidLeases(list) {
			t.Errorf("ValidLeases of %d leases, the first one %v, is true", len(list), list[0])
		}
	}
}

func TestWrongLeasesHaveFixedResults(t *testing.T) {
	for _, list := range wrongLists() {
		for _, now := range append(oddNumbers(), 0, 7, 8) {
			if impl.OwnerAt(list, 0, now) != -1 || impl.OwnerAt(list, 4, now) != -1 {
				t.Errorf("OwnerAt of %d wrong leases at %d is not -1", len(list), now)
			}
			if len(impl.BusyAt(list, now)) != 0 {
				t.Errorf("BusyAt of %d wrong leases at %d = %v", len(list), now, impl.BusyAt(list, now))
			}
			if impl.LeasedTime(list, now) != -1 {
				t.Errorf("LeasedTime of %d wrong leases and %d = %d", len(list), now, impl.LeasedTime(list, now))
			}
		}
		if out, ok := impl.AddLease(list, impl.Lease{Conn: 1, From: 500, Until: 600}); ok || len(out) != 0 {
			t.Errorf("AddLease to %d wrong leases = %v, %v", len(list), out, ok)
		}
		if impl.FreeFor(list, 6, 990, 1000) != -1 {
			t.Errorf("FreeFor of %d wrong leases = %d", len(list), impl.FreeFor(list, 6, 990, 1000))
		}
	}
}

func TestP11LeasesCanBeLeftOut(t *testing.T) {
	for _, list := range validLists() {
		for i := range list {
			if !impl.ValidLeases(withoutLease(list, i)) {
				t.Fatalf("%v without the lease %d is not valid", list, i)
			}
		}
	}
}

func TestP12LeasesTellWhoHasAConnection(t *testing.T) {
	for _, list := range validLists() {
		for _, x := range list {
			first := impl.OwnerAt(list, x.Conn, x.From)
			last := impl.OwnerAt(list, x.Conn, x.Until-1)
			if first != x.Owner || last != x.Owner {
				t.Fatalf("OwnerAt of %v = %d and %d", x, first, last)
			}
		}
	}
}

func TestP13WhoHasAConnectionKeepsItBusy(t *testing.T) {
	for _, list := range validLists() {
		for _, now := range append(oddNumbers(), edgeTimes()...) {
			busy := impl.BusyAt(list, now)
			for conn := -1; conn <= impl.MaxConn; conn++ {
				if hasNumber(busy, conn) != (impl.OwnerAt(list, conn, now) != -1) {
					t.Fatalf("BusyAt of %v at %d = %v", list, now, busy)
				}
			}
		}
	}
}

func TestP14AddedLeasesAreLast(t *testing.T) {
	added := 0
	for _, list := range validLists() {
		for _, x := range someLeases() {
			want := withLease(list, x)
			possible := len(list) < impl.MaxLeases && !clashing(want)
			out, ok := impl.AddLease(list, x)
			if ok != possible {
				t.Fatalf("AddLease of %v to %v = %v", x, list, ok)
			}
			if !ok {
				if len(out) != 0 {
					t.Fatalf("AddLease of %v to %v = %v without success", x, list, out)
				}
				continue
			}
			added++
			if !sameLeases(out, want) || impl.OwnerAt(out, x.Conn, x.From) != x.Owner {
				t.Fatalf("AddLease of %v to %v = %v", x, list, out)
			}
		}
	}
	if added == 0 {
		t.Error("AddLease always fails")
	}
}

func TestAddLeaseFailsForWrongLeases(t *testing.T) {
	for _, list := range longLists() {
		for _, x := range wrongLeases() {
			if out, ok := impl.AddLease(list, x); ok || len(out) != 0 {
				t.Errorf("AddLease of %v = %v, %v", x, out, ok)
			}
		}
	}
	full := touching(0, impl.MaxLeases, false)
	if out, ok := impl.AddLease(full, impl.Lease{Conn: 1, From: 0, Until: 1}); ok || len(out) != 0 {
		t.Errorf("AddLease to a full list = %v, %v", out, ok)
	}
	if out, ok := impl.AddLease(full[:11], full[11]); !ok || !sameLeases(out, full) {
		t.Errorf("AddLease of the last lease = %v, %v", out, ok)
	}
}

func TestP15LeasesAreGivenOnce(t *testing.T) {
	for _, list := range validLists() {
		for _, x := range someLeases() {
			out, ok := impl.AddLease(list, x)
			if !ok {
				continue
			}
			if again, ok := impl.AddLease(out, x); ok || len(again) != 0 {
				t.Fatalf("AddLease of %v to %v twice = %v, %v", x, list, again, ok)
			}
		}
	}
}

func TestBusyAtAscendsWithinConnections(t *testing.T) {
	for _, list := range validLists() {
		for _, now := range edgeTimes() {
			busy := impl.BusyAt(list, now)
			if !ascends(busy) || len(busy) > impl.MaxConn {
				t.Fatalf("BusyAt of %v at %d = %v", list, now, busy)
			}
			for _, conn := range busy {
				if freeByHand(list, conn, now, now+1) {
					t.Fatalf("BusyAt of %v at %d = %v", list, now, busy)
				}
			}
		}
	}
	if !sameNumbers(impl.BusyAt(longLists()[0], 499), []int{0, 1, 2, 3, 4, 5}) {
		t.Error("BusyAt when all are leased")
	}
}

func TestP17FreeConnectionsCanBeLeased(t *testing.T) {
	for i, list := range validLists() {
		if i%3 != 0 && len(list) == 3 {
			continue
		}
		for many := 1; many <= impl.MaxConn; many++ {
			for _, span := range [][]int{{0, 1}, {0, 4}, {1, 2}, {2, 3}, {3, 5}, {997, 998}, {998, 999}, {999, 1000}, {80, 160}} {
				checkFree(t, list, many, span[0], span[1])
			}
		}
	}
}

// checkFree checks FreeFor against each time and each lesser connection.
func checkFree(t *testing.T, list []impl.Lease, many int, from int, until int) {
	want := -1
	for conn := many - 1; conn >= 0; conn-- {
		if freeByHand(list, conn, from, until) {
			want = conn
		}
	}
	conn := impl.FreeFor(list, many, from, until)
	if conn != want {
		t.Fatalf("FreeFor of %v, %d, %d, %d = %d, not %d", list, many, from, until, conn, want)
	}
	if len(list) == impl.MaxLeases {
		return
	}
	for c := 0; c <= conn; c++ {
		_, ok := impl.AddLease(list, impl.Lease{Conn: c, Owner: 4, From: from, Until: until})
		if ok != (c == conn) {
			t.Fatalf("AddLease of the connection %d to %v from %d until %d = %v", c, list, from, until, ok)
		}
	}
}

func TestFreeForFailsForWrongArguments(t *testing.T) {
	list := []impl.Lease{{Conn: 1, Owner: 1, From: 10, Until: 20}}
	for _, many := range []int{minInt, -1, 0, 7, maxInt} {
		if impl.FreeFor(list, many, 0, 1) != -1 {
			t.Errorf("FreeFor of %d connections = %d", many, impl.FreeFor(list, many, 0, 1))
		}
	}
	wrong := [][]int{{-1, 1}, {-1, 0}, {minInt, 1}, {minInt, maxInt}, {0, 0}, {5, 5}, {5, 4}, {999, 1001}, {1000, 1000}, {1000, 1001}, {0, maxInt}, {maxInt, minInt}, {0, minInt}}
	for _, span := range wrong {
		if impl.FreeFor(list, 6, span[0], span[1]) != -1 || impl.FreeFor(nil, 6, span[0], span[1]) != -1 {
			t.Errorf("FreeFor from %d until %d is not -1", span[0], span[1])
		}
	}
	if impl.FreeFor(list, 6, 0, 1000) != 0 || impl.FreeFor(list, 1, 999, 1000) != 0 {
		t.Error("FreeFor at the limits")
	}
}

func TestFreeForBetweenLeasesThatTouch(t *testing.T) {
	list := []impl.Lease{{Conn: 0, Owner: 0, From: 10, Until: 20}, {Conn: 0, Owner: 0, From: 30, Until: 40}}
	if impl.FreeFor(list, 2, 20, 30) != 0 || impl.FreeFor(list, 2, 19, 30) != 1 || impl.FreeFor(list, 2, 20, 31) != 1 || impl.FreeFor(list, 2, 12, 15) != 1 || impl.FreeFor(list, 2, 5, 45) != 1 {
		t.Error("FreeFor between two leases")
	}
}

func TestP18WithoutLeasesAllAreFree(t *testing.T) {
	for many := 1; many <= impl.MaxConn; many++ {
		for _, span := range [][]int{{0, 1}, {0, 1000}, {500, 700}, {999, 1000}} {
			if impl.FreeFor(nil, many, span[0], span[1]) != 0 || impl.FreeFor([]impl.Lease{}, many, span[0], span[1]) != 0 {
				t.Errorf("FreeFor without leases, %d, %v is not 0", many, span)
			}
		}
	}
	for _, list := range validLists() {
		for many := 1; many < impl.MaxConn; many++ {
			few := impl.FreeFor(list, many, 1, 3)
			more := impl.FreeFor(list, many+1, 1, 3)
			if few != -1 && few != more || few == -1 && more != -1 && more != many {
				t.Fatalf("FreeFor of %v = %d with %d connections, and %d with 1 more", list, few, many, more)
			}
		}
	}
}

func TestP19TimesOfOwnersAddUp(t *testing.T) {
	for _, list := range validLists() {
		all := 0
		for _, x := range list {
			all += x.Until - x.From
		}
		sum := 0
		for owner := 0; owner < impl.MaxOwner; owner++ {
			sum += impl.LeasedTime(list, owner)
		}
		if sum != all {
			t.Fatalf("LeasedTime of all owners of %v = %d", list, sum)
		}
	}
}

func TestLeasedTimeOfEachOwner(t *testing.T) {
	list := []impl.Lease{{Conn: 0, Owner: 4, From: 0, Until: 10}, {Conn: 1, Owner: 2, From: 5, Until: 6}, {Conn: 2, Owner: 4, From: 5, Until: 1000}}
	want := []int{0, 0, 1, 0, 1005}
	for owner := range want {
		if impl.LeasedTime(list, owner) != want[owner] {
			t.Errorf("LeasedTime of the owner %d = %d", owner, impl.LeasedTime(list, owner))
		}
	}
}

func TestP130LeasesCanBeShorter(t *testing.T) {
	for _, list := range validLists() {
		var short []impl.Lease
		for _, x := range list {
			short = append(short, impl.Lease{Conn: x.Conn, Owner: x.Owner, From: x.From, Until: x.From + 1})
		}
		if !impl.ValidLeases(short) {
			t.Fatalf("the first times of %v are not valid", list)
		}
	}
}

func TestP131ConnectionsHaveOwnersWhileTheyAreLeased(t *testing.T) {
	for _, list := range validLists() {
		for _, now := range append(edgeTimes(), 79, 80, 160, 499, 500, 879, 880, 959, 960) {
			for conn := 0; conn < impl.MaxConn; conn++ {
				if (impl.OwnerAt(list, conn, now) == -1) != freeByHand(list, conn, now, now+1) {
					t.Fatalf("OwnerAt of %v, %d at %d = %d", list, conn, now, impl.OwnerAt(list, conn, now))
				}
			}
		}
	}
}

func TestOwnerAtTakesAnyNumbers(t *testing.T) {
	for _, list := range longLists() {
		for _, odd := range oddNumbers() {
			if impl.OwnerAt(list, odd, 0) != -1 || impl.OwnerAt(list, 0, odd) != -1 || impl.OwnerAt(list, odd, odd) != -1 {
				t.Errorf("OwnerAt of %v with %d is not -1", list, odd)
			}
			if len(impl.BusyAt(list, odd)) != 0 || impl.LeasedTime(list, odd) != 0 {
				t.Errorf("BusyAt or LeasedTime of %v with %d", list, odd)
			}
		}
		if impl.OwnerAt(list, impl.MaxConn, 0) != -1 || impl.LeasedTime(list, impl.MaxOwner) != 0 {
			t.Errorf("OwnerAt or LeasedTime of %v behind the last one", list)
		}
	}
}

func TestP132LeasesAreAddedInAnyOrder(t *testing.T) {
	lists := append(longLists(), nil, touching(0, 10, false), []impl.Lease{{Conn: 1, Owner: 0, From: 1, Until: 2}})
	both := 0
	for _, list := range lists {
		for _, x := range someLeases() {
			for _, y := range someLeases() {
				xy := addsBoth(list, x, y)
				if xy != addsBoth(list, y, x) {
					t.Fatalf("AddLease of %v and %v to %v depends on the order", x, y, list)
				}
				if xy != (len(list)+2 <= impl.MaxLeases && !clashing(withLease(withLease(list, x), y))) {
					t.Fatalf("AddLease of %v and %v to %v = %v", x, y, list, xy)
				}
				if xy {
					both++
				}
			}
		}
	}
	if both == 0 {
		t.Error("no two leases can be added")
	}
}

// addsBoth reports whether two leases can be added, one after the other.
func addsBoth(list []impl.Lease, x impl.Lease, y impl.Lease) bool {
	one, ok := impl.AddLease(list, x)
	if !ok {
		return false
	}
	_, ok = impl.AddLease(one, y)
	return ok
}

func TestP133BusyConnectionsAreLeasedBySomebody(t *testing.T) {
	for _, list := range validLists() {
		for _, now := range append(edgeTimes(), 80, 500, 880) {
			all := impl.BusyAt(list, now)
			for many := range list {
				for _, conn := range impl.BusyAt(list[:many], now) {
					if !hasNumber(all, conn) {
						t.Fatalf("BusyAt of %v at %d = %v without %d", list, now, all, conn)
					}
				}
			}
			for _, x := range list {
				leased := x.From <= now && now < x.Until
				if leased && !hasNumber(all, x.Conn) {
					t.Fatalf("BusyAt of %v at %d = %v", list, now, all)
				}
			}
		}
	}
}

func TestP134OwnersHaveConnectionsForSomeTime(t *testing.T) {
	for _, list := range validLists() {
		for owner := 0; owner < impl.MaxOwner; owner++ {
			has := false
			for _, x := range list {
				has = has || x.Owner == owner
			}
			time := impl.LeasedTime(list, owner)
			if time < 0 || time > impl.MaxConn*impl.MaxClock || (time == 0) == has {
				t.Fatalf("LeasedTime of %v, %d = %d", list, owner, time)
			}
		}
	}
	var most []impl.Lease
	for conn := 0; conn < impl.MaxConn; conn++ {
		most = append(most, impl.Lease{Conn: conn, Owner: 3, From: 0, Until: impl.MaxClock})
	}
	if impl.LeasedTime(most, 3) != 6000 || impl.LeasedTime(most, 2) != 0 || impl.LeasedTime(nil, 3) != 0 {
		t.Error("LeasedTime of an owner with everything, and without leases")
	}
}

func TestLeasesShareNoMemory(t *testing.T) {
	x := impl.Lease{Conn: 1, Owner: 2, From: 3, Until: 4}
	y := impl.Lease{Conn: 2, Owner: 3, From: 4, Until: 5}
	// What lies behind the list is memory of the argument, too.
	memory := []impl.Lease{x, {}, {}}
	out, ok := impl.AddLease(memory[:1], y)
	impl.OwnerAt(memory[:1], 1, 3)
	impl.BusyAt(memory[:1], 3)
	impl.FreeFor(memory[:1], 6, 3, 4)
	impl.LeasedTime(memory[:1], 2)
	if !ok || !sameLeases(memory, []impl.Lease{x, {}, {}}) {
		t.Errorf("the argument was changed into %v", memory)
	}
	for i := range memory {
		memory[i].Conn = -77
	}
	if !sameLeases(out, []impl.Lease{x, y}) {
		t.Errorf("AddLease changes with the argument into %v", out)
	}
}
