package tests

import (
	"testing"

	"loop.example/connectionpool/impl"
)

// poolOf returns a pool in which the digits of a number with base 3 tell which connections are closed, idle or held.
func poolOf(most int, digits int, step int) impl.Pool {
	p := impl.Pool{Max: most}
	for i := 0; i < most; i++ {
		conn := i
		// Neither list is always ascending.
		if step%2 == 1 {
			conn = most - 1 - i
		}
		if digits%3 == 1 {
			p.Idle = append(p.Idle, conn)
		}
		if digits%3 == 2 {
			p.Held = append(p.Held, impl.Hold{Conn: conn, Owner: (i*step + step) % impl.MaxOwner})
		}
		digits /= 3
	}
	return p
}

// waitLists returns lists of owners that can wait: none, few, the same again and again, and as many as there can be.
func waitLists() [][]int {
	return [][]int{
		nil,
		{0},
		{4},
		{3, 1},
		{2, 2, 2},
		{0, 4, 1, 3, 2},
		{4, 3, 2, 1, 0, 4, 3, 2, 1, 0, 4},
		{0, 1, 2, 3, 4, 0, 1, 2, 3, 4, 0, 1},
		{3, 3, 3, 3, 3, 3, 3, 3, 3, 3, 3, 3},
	}
}

// withWait returns a pool with other owners that wait.
func withWait(p impl.Pool, wait []int) impl.Pool {
	return impl.Pool{Max: p.Max, Idle: p.Idle, Held: p.Held, Wait: wait}
}

// manyPools returns valid pools: all kinds of connections that are closed, idle and held, in several orders.
func manyPools() []impl.Pool {
	var out []impl.Pool
	power := 1
	for most := 1; most <= impl.MaxConn; most++ {
		power *= 3
		for digits := 0; digits < power; digits++ {
			for step := 0; step < 4; step++ {
				p := poolOf(most, digits, step)
				out = append(out, p)
				if len(p.Held) < most {
					continue
				}
				for _, wait := range waitLists()[1:] {
					out = append(out, withWait(p, wait))
				}
			}
		}
	}
	return append(out, mixedPools()...)
}

// threeHolds returns new holds of three connections, which are neither ascending nor descending.
func threeHolds() []impl.Hold {
	return []impl.Hold{{Conn: 2, Owner: 4}, {Conn: 5, Owner: 0}, {Conn: 0, Owner: 4}}
}

// mixedPools returns valid pools whose connections are neither ascending nor descending, and that share no memory.
func mixedPools() []impl.Pool {
	return []impl.Pool{
		{Max: 6, Idle: []int{3, 1, 4}, Held: threeHolds()},
		{Max: 6, Idle: []int{4, 1, 3}, Held: threeHolds()},
		{Max: 6, Idle: []int{1, 4}, Held: threeHolds()},
		{Max: 6, Held: threeHolds()},
		{Max: 6, Idle: []int{5, 0, 3, 1}},
		{Max: 3, Held: []impl.Hold{{Conn: 1, Owner: 2}, {Conn: 2, Owner: 2}, {Conn: 0, Owner: 2}}, Wait: []int{2, 0, 2}},
	}
}

// wrongPools returns pools that are not valid.
func wrongPools() []impl.Pool {
	one := []impl.Hold{{Conn: 0, Owner: 1}}
	two := []impl.Hold{{Conn: 0, Owner: 1}, {Conn: 1, Owner: 2}}
	return []impl.Pool{
		{},
		{Max: -1},
		{Max: 7},
		{Max: minInt},
		{Max: maxInt},
		{Max: 2, Idle: []int{2}},
		{Max: 2, Idle: []int{-1}},
		{Max: 2, Idle: []int{minInt}},
		{Max: 2, Idle: []int{0, maxInt}},
		{Max: 6, Idle: []int{6}},
		{Max: 6, Idle: []int{1, 1}},
		{Max: 6, Idle: []int{1, 3, 2, 1}},
		{Max: 1, Idle: []int{0, 0}},
		{Max: 1, Idle: []int{0, 1}},
		{Max: 6, Idle: make([]int, 100000)},
		{Max: 6, Idle: []int{0}, Held: one},
		{Max: 6, Idle: []int{3, 1}, Held: two},
		{Max: 1, Held: two},
		{Max: 6, Held: []impl.Hold{{Conn: 6, Owner: 0}}},
		{Max: 3, Held: []impl.Hold{{Conn: 3, Owner: 0}}},
		{Max: 6, Held: []impl.Hold{{Conn: -1, Owner: 0}}},
		{Max: 6, Held: []impl.Hold{{Conn: 2, Owner: 0}, {Conn: 2, Owner: 1}}},
		{Max: 6, Held: []impl.Hold{{Conn: 2, Owner: 0}, {Conn: 3, Owner: 1}, {Conn: 2, Owner: 0}}},
		{Max: 6, Held: []impl.Hold{{Conn: 2, Owner: 5}}},
		{Max: 6, Held: []impl.Hold{{Conn: 2, Owner: -1}}},
		{Max: 6, Held: []impl.Hold{{Conn: 2, Owner: 4}, {Conn: 3, Owner: maxInt}}},
		{Max: 6, Held: []impl.Hold{{Conn: minInt, Owner: minInt}}},
		{Max: 6, Held: make([]impl.Hold, 100000)},
		{Max: 2, Wait: []int{1}},
		{Max: 2, Idle: []int{0, 1}, Wait: []int{1}},
		{Max: 2, Held: one, Wait: []int{1}},
		{Max: 2, Idle: []int{1}, Held: one, Wait: []int{1}},
		{Max: 2, Held: two, Wait: []int{5}},
		{Max: 2, Held: two, Wait: []int{-1}},
		{Max: 2, Held: two, Wait: []int{0, 1, maxInt}},
		{Max: 2, Held: two, Wait: make([]int, 13)},
		{Max: 2, Held: two, Wait: make([]int, 100000)},
		{Max: 0, Wait: []int{1}},
	}
}

// sameHolds reports whether two lists have the same holds in the same order.
func sameHolds(a []impl.Hold, b []impl.Hold) bool {
	if len(a) != len(b) {
		return false
	}
	for i := range a {
		if a[i] != b[i] {
			return false
		}
	}
	return true
}

// samePool reports whether two pools are the same.
func samePool(a impl.Pool, b impl.Pool) bool {
	return a.Max == b.Max && sameNumbers(a.Idle, b.Idle) && sameHolds(a.Held, b.Held) && sameNumbers(a.Wait, b.Wait)
}

// isZeroPool reports whether a pool is the zero value.
func isZeroPool(p impl.Pool) bool {
	return samePool(p, impl.Pool{})
}

// holdsOf reports whether some hold has a connection.
func holdsOf(held []impl.Hold, conn int) bool {
	for _, h := range held {
		if h.Conn == conn {
			return true
		}
	}
	return false
}

// holdsBut returns the holds of all connections but one, and some more behind them.
func holdsBut(held []impl.Hold, conn int, more ...impl.Hold) []impl.Hold {
	var out []impl.Hold
	for _, h := range held {
		if h.Conn != conn {
			out = append(out, h)
		}
	}
	return append(out, more...)
}

// copyOf returns a list with the same numbers, and some more behind them.
func copyOf(list []int, more ...int) []int {
	return append(append([]int{}, list...), more...)
}

// acquiredByHand returns the connection that is given next, -1 if all are held, and Idle then, as the document tells it.
func acquiredByHand(p impl.Pool) (int, []int) {
	if n := len(p.Idle); n > 0 {
		return p.Idle[n-1], copyOf(p.Idle[:n-1])
	}
	for conn := 0; conn < p.Max; conn++ {
		if !holdsOf(p.Held, conn) {
			return conn, nil
		}
	}
	return -1, nil
}

// oddOwners returns numbers that are no owners.
func oddOwners() []int {
	return []int{minInt, -2, -1, 5, 6, maxInt}
}

// oddConns returns numbers that are no connections.
func oddConns() []int {
	return []int{minInt, -2, -1, 6, 7, maxInt}
}

func TestValidPool(t *testing.T) {
	for _, p := range manyPools() {
		if !impl.ValidPool(p) {
			t.Fatalf("ValidPool of %v is false", p)
		}
	}
	for i, p := range wrongPools() {
		if impl.ValidPool(p) {
			t.Errorf("ValidPool of the wrong pool %d with Max %d is true", i, p.Max)
		}
	}
}

func TestWrongPoolsHaveFixedResults(t *testing.T) {
	for i, p := range wrongPools() {
		for _, n := range []int{minInt, -1, 0, 1, 2, 3, 4, 5, 6, maxInt} {
			if out, conn, ok := impl.AcquireConn(p, n); ok || conn != -1 || !isZeroPool(out) {
				t.Errorf("AcquireConn of the wrong pool %d, %d = %v, %d, %v", i, n, out, conn, ok)
			}
			if out, who, ok := impl.ReleaseConn(p, n); ok || who != -1 || !isZeroPool(out) {
				t.Errorf("ReleaseConn of the wrong pool %d, %d = %v, %d, %v", i, n, out, who, ok)
			}
			if out, closed := impl.CloseIdle(p, n); closed != -1 || !isZeroPool(out) {
				t.Errorf("CloseIdle of the wrong pool %d, %d = %v, %d", i, n, out, closed)
			}
			if conns := impl.HeldBy(p, n); len(conns) != 0 {
				t.Errorf("HeldBy of the wrong pool %d, %d = %v", i, n, conns)
			}
		}
	}
}

func TestP20PoolsCanBeEmpty(t *testing.T) {
	for _, p := range manyPools() {
		if !impl.ValidPool(impl.Pool{Max: p.Max}) {
			t.Fatalf("a pool with Max %d alone is not valid", p.Max)
		}
		if !impl.ValidPool(impl.Pool{Max: p.Max, Idle: []int{}, Held: []impl.Hold{}, Wait: []int{}}) {
			t.Fatalf("a pool with Max %d and empty lists is not valid", p.Max)
		}
		if !impl.ValidPool(withWait(p, nil)) || !impl.ValidPool(withWait(p, []int{})) {
			t.Fatalf("%v without those that wait is not valid", p)
		}
	}
}

func TestP21AcquiredConnectionsAreHeld(t *testing.T) {
	got := 0
	for _, p := range manyPools() {
		for owner := 0; owner < impl.MaxOwner; owner++ {
			out, conn, ok := impl.AcquireConn(p, owner)
			want, idle := acquiredByHand(p)
			if want == -1 {
				continue
			}
			got++
			hold := impl.Hold{Conn: conn, Owner: owner}
			wanted := impl.Pool{Max: p.Max, Idle: idle, Held: holdsBut(p.Held, -1, hold)}
			if !ok || conn != want || !samePool(out, wanted) || !impl.ValidPool(out) {
				t.Fatalf("AcquireConn of %v, %d = %v, %d, %v", p, owner, out, conn, ok)
			}
			if holdsOf(p.Held, conn) || !hasNumber(impl.HeldBy(out, owner), conn) {
				t.Fatalf("AcquireConn of %v, %d gives %d, and then %v are held", p, owner, conn, out.Held)
			}
		}
	}
	if got == 0 {
		t.Error("AcquireConn never gives a connection")
	}
}

func TestP22WhoGetsNothingWaitsLast(t *testing.T) {
	waited := 0
	for _, p := range manyPools() {
		for owner := 0; owner < impl.MaxOwner; owner++ {
			if len(p.Held) < p.Max || len(p.Wait) == impl.MaxLine {
				continue
			}
			waited++
			out, conn, ok := impl.AcquireConn(p, owner)
			want := withWait(p, copyOf(p.Wait, owner))
			if !ok || conn != -1 || !samePool(out, want) || !impl.ValidPool(out) {
				t.Fatalf("AcquireConn of %v, %d = %v, %d, %v", p, owner, out, conn, ok)
			}
		}
	}
	if waited == 0 {
		t.Error("nobody waits")
	}
}

func TestAcquireConnFailsWithoutRoomToWait(t *testing.T) {
	p := impl.Pool{Max: 1}
	for i := 0; i < 1+impl.MaxLine; i++ {
		next, _, ok := impl.AcquireConn(p, i%impl.MaxOwner)
		if !ok || !impl.ValidPool(next) {
			t.Fatalf("AcquireConn of %v fails", p)
		}
		p = next
	}
	for owner := 0; owner < impl.MaxOwner; owner++ {
		if out, conn, ok := impl.AcquireConn(p, owner); ok || conn != -1 || !isZeroPool(out) {
			t.Errorf("AcquireConn of %v, %d = %v, %d, %v", p, owner, out, conn, ok)
		}
	}
	for _, full := range manyPools() {
		if len(full.Wait) < impl.MaxLine {
			continue
		}
		if out, conn, ok := impl.AcquireConn(full, 0); ok || conn != -1 || !isZeroPool(out) {
			t.Errorf("AcquireConn of %v = %v, %d, %v", full, out, conn, ok)
		}
	}
}

func TestAcquireConnFailsForOtherOwners(t *testing.T) {
	for _, p := range manyPools() {
		for _, owner := range oddOwners() {
			if out, conn, ok := impl.AcquireConn(p, owner); ok || conn != -1 || !isZeroPool(out) {
				t.Fatalf("AcquireConn of %v, %d = %v, %d, %v", p, owner, out, conn, ok)
			}
		}
	}
}

func TestP23GivenBackAtOnceConnectionsAreIdle(t *testing.T) {
	for _, p := range manyPools() {
		taken, conn, ok := impl.AcquireConn(p, 3)
		if !ok || conn == -1 {
			continue
		}
		back, who, ok := impl.ReleaseConn(taken, conn)
		if !ok || who != -1 || len(back.Idle) == 0 || back.Idle[len(back.Idle)-1] != conn {
			t.Fatalf("ReleaseConn of %v, %d = %v, %d, %v", taken, conn, back, who, ok)
		}
		if hasNumber(p.Idle, conn) && !samePool(back, p) {
			t.Fatalf("ReleaseConn after AcquireConn of %v = %v", p, back)
		}
		if !hasNumber(p.Idle, conn) && !samePool(back, impl.Pool{Max: p.Max, Idle: copyOf(p.Idle, conn), Held: p.Held}) {
			t.Fatalf("ReleaseConn after AcquireConn of %v = %v", p, back)
		}
	}
}

func TestP24ReleasedConnectionsArePassedOn(t *testing.T) {
	passed := 0
	for _, p := range manyPools() {
		for _, h := range p.Held {
			out, who, ok := impl.ReleaseConn(p, h.Conn)
			want := impl.Pool{Max: p.Max, Idle: copyOf(p.Idle, h.Conn), Held: holdsBut(p.Held, h.Conn)}
			next := -1
			if len(p.Wait) > 0 {
				passed++
				next = p.Wait[0]
				hold := impl.Hold{Conn: h.Conn, Owner: next}
				want = impl.Pool{Max: p.Max, Idle: p.Idle, Held: holdsBut(p.Held, h.Conn, hold), Wait: p.Wait[1:]}
			}
			if !ok || who != next || !samePool(out, want) || !impl.ValidPool(out) {
				t.Fatalf("ReleaseConn of %v, %d = %v, %d, %v", p, h.Conn, out, who, ok)
			}
		}
	}
	if passed == 0 {
		t.Error("no connection is passed on")
	}
}

func TestReleaseConnFailsForConnectionsThatAreNotHeld(t *testing.T) {
	for _, p := range manyPools() {
		wrong := oddConns()
		for conn := 0; conn < impl.MaxConn; conn++ {
			if !holdsOf(p.Held, conn) {
				wrong = append(wrong, conn)
			}
		}
		for _, conn := range wrong {
			if out, who, ok := impl.ReleaseConn(p, conn); ok || who != -1 || !isZeroPool(out) {
				t.Fatalf("ReleaseConn of %v, %d = %v, %d, %v", p, conn, out, who, ok)
			}
		}
	}
}

func TestP25AllCanBeGivenBack(t *testing.T) {
	for _, p := range manyPools() {
		now := p
		for i := 0; i < len(p.Wait)+len(p.Held); i++ {
			if len(now.Held) == 0 {
				t.Fatalf("nothing is held in %v after %d were given back", p, i)
			}
			next, _, ok := impl.ReleaseConn(now, now.Held[i%len(now.Held)].Conn)
			if !ok || !impl.ValidPool(next) {
				t.Fatalf("ReleaseConn of %v fails", now)
			}
			now = next
		}
		if len(now.Held) != 0 || len(now.Wait) != 0 || len(now.Idle) != len(p.Idle)+len(p.Held) {
			t.Fatalf("%v becomes %v when all is given back", p, now)
		}
	}
}

// closeCounts returns numbers of connections to close: fewer than are idle, as many, and more.
func closeCounts() []int {
	return []int{0, 1, 2, 3, 5, 6, 7, 1000, maxInt}
}

func TestP26IdleConnectionsAreClosedFromTheFront(t *testing.T) {
	for _, p := range manyPools() {
		for _, many := range closeCounts() {
			gone := many
			if gone > len(p.Idle) {
				gone = len(p.Idle)
			}
			out, closed := impl.CloseIdle(p, many)
			want := impl.Pool{Max: p.Max, Idle: p.Idle[gone:], Held: p.Held, Wait: p.Wait}
			if closed != gone || !samePool(out, want) || !impl.ValidPool(out) {
				t.Fatalf("CloseIdle of %v, %d = %v, %d", p, many, out, closed)
			}
		}
		for _, many := range []int{-1, -2, minInt} {
			if out, closed := impl.CloseIdle(p, many); closed != -1 || !isZeroPool(out) {
				t.Fatalf("CloseIdle of %v, %d = %v, %d", p, many, out, closed)
			}
		}
	}
}

func TestP27ClosingGoesInParts(t *testing.T) {
	for _, p := range manyPools() {
		for a := 0; a <= impl.MaxConn+1; a++ {
			for b := 0; b <= impl.MaxConn+1; b++ {
				first, n := impl.CloseIdle(p, a)
				second, m := impl.CloseIdle(first, b)
				all, sum := impl.CloseIdle(p, a+b)
				if n == -1 || m == -1 || n+m != sum || !samePool(second, all) {
					t.Fatalf("CloseIdle of %v, %d and %d = %v, but %v", p, a, b, second, all)
				}
			}
		}
	}
}

func TestP28ConnectionsHaveOneHolder(t *testing.T) {
	for _, p := range manyPools() {
		sum := 0
		for owner := 0; owner < impl.MaxOwner; owner++ {
			var want []int
			for _, h := range p.Held {
				if h.Owner == owner {
					want = append(want, h.Conn)
				}
			}
			conns := impl.HeldBy(p, owner)
			if !sameNumbers(conns, want) {
				t.Fatalf("HeldBy of %v, %d = %v", p, owner, conns)
			}
			sum += len(conns)
		}
		if sum != len(p.Held) {
			t.Fatalf("HeldBy of all owners of %v are %d", p, sum)
		}
		for _, owner := range oddOwners() {
			if len(impl.HeldBy(p, owner)) != 0 {
				t.Fatalf("HeldBy of %v, %d = %v", p, owner, impl.HeldBy(p, owner))
			}
		}
	}
}

func TestP135IdleConnectionsCanBeInAnyOrder(t *testing.T) {
	for _, p := range manyPools() {
		reverse := impl.Pool{Max: p.Max, Held: p.Held, Wait: p.Wait}
		for i := range p.Idle {
			reverse.Idle = append(reverse.Idle, p.Idle[len(p.Idle)-1-i])
		}
		if !impl.ValidPool(reverse) {
			t.Fatalf("%v is not valid", reverse)
		}
	}
}

func TestP136OpenConnectionsAreTakenFirst(t *testing.T) {
	for _, p := range manyPools() {
		_, conn, ok := impl.AcquireConn(p, 1)
		if !ok || conn == -1 {
			continue
		}
		opened := !hasNumber(p.Idle, conn)
		if opened != (len(p.Idle) == 0) {
			t.Fatalf("AcquireConn of %v opens %d", p, conn)
		}
		if !opened && conn != p.Idle[len(p.Idle)-1] {
			t.Fatalf("AcquireConn of %v takes %d", p, conn)
		}
	}
	p := impl.Pool{Max: 4, Held: []impl.Hold{{Conn: 3, Owner: 0}, {Conn: 0, Owner: 0}}}
	if _, conn, ok := impl.AcquireConn(p, 0); !ok || conn != 1 {
		t.Errorf("AcquireConn of %v opens %d", p, conn)
	}
}

func TestP137WhoWaitsIsServedInOrder(t *testing.T) {
	for _, p := range manyPools() {
		if len(p.Wait) == 0 {
			continue
		}
		for _, h := range p.Held {
			now := p
			for i, owner := range p.Wait {
				next, who, ok := impl.ReleaseConn(now, h.Conn)
				if !ok || who != owner || !sameNumbers(next.Wait, p.Wait[i+1:]) {
					t.Fatalf("ReleaseConn of %v, %d = %v, %d, %v", now, h.Conn, next, who, ok)
				}
				now = next
			}
			if last, who, ok := impl.ReleaseConn(now, h.Conn); !ok || who != -1 || !sameNumbers(last.Idle, []int{h.Conn}) {
				t.Fatalf("ReleaseConn of %v, %d = %v, %d, %v", now, h.Conn, last, who, ok)
			}
		}
	}
}

func TestP138AllIdleConnectionsCanBeClosed(t *testing.T) {
	for _, p := range manyPools() {
		if all, n := impl.CloseIdle(p, maxInt); n != len(p.Idle) || len(all.Idle) != 0 || !sameHolds(all.Held, p.Held) {
			t.Fatalf("CloseIdle of many of %v = %v, %d", p, all, n)
		}
		if none, n := impl.CloseIdle(p, 0); n != 0 || !samePool(none, p) {
			t.Fatalf("CloseIdle of none of %v = %v, %d", p, none, n)
		}
	}
}

func TestP139HeldConnectionsAreThoseAcquired(t *testing.T) {
	for _, p := range manyPools() {
		for owner := 0; owner < impl.MaxOwner; owner++ {
			out, conn, ok := impl.AcquireConn(p, owner)
			if !ok || conn == -1 {
				continue
			}
			if !sameNumbers(impl.HeldBy(out, owner), copyOf(impl.HeldBy(p, owner), conn)) {
				t.Fatalf("HeldBy after AcquireConn of %v, %d = %v", p, owner, impl.HeldBy(out, owner))
			}
		}
	}
}

// poolWithSpareMemory returns a pool, and the memory of its lists, which goes on behind them.
func poolWithSpareMemory(idle []int, held []impl.Hold, wait []int) (impl.Pool, []int, []impl.Hold, []int) {
	a := append(copyOf(idle), 0, 0, 0)
	b := append(holdsBut(held, -1), impl.Hold{}, impl.Hold{}, impl.Hold{})
	c := append(copyOf(wait), 0, 0, 0)
	p := impl.Pool{Max: len(idle) + len(held), Idle: a[:len(idle)], Held: b[:len(held)], Wait: c[:len(wait)]}
	return p, a, b, c
}

// spoilPool overwrites all that the lists of a pool have, and appends to them.
func spoilPool(p impl.Pool) {
	for i := range p.Idle {
		p.Idle[i] = -77
	}
	for i := range p.Held {
		p.Held[i] = impl.Hold{Conn: -77, Owner: -77}
	}
	for i := range p.Wait {
		p.Wait[i] = -77
	}
	p.Idle = append(p.Idle, -77)
	p.Held = append(p.Held, impl.Hold{Conn: -77, Owner: -77})
	p.Wait = append(p.Wait, -77)
}

func TestPoolsShareNoMemory(t *testing.T) {
	held := []impl.Hold{{Conn: 0, Owner: 2}, {Conn: 2, Owner: 4}}
	full := []impl.Hold{{Conn: 0, Owner: 2}, {Conn: 2, Owner: 4}, {Conn: 1, Owner: 2}}
	for _, wait := range [][]int{nil, {3, 1}} {
		idle, holds := []int{1, 3}, held
		if len(wait) > 0 {
			idle, holds = nil, full
		}
		p, a, b, c := poolWithSpareMemory(idle, holds, wait)
		acquired, _, _ := impl.AcquireConn(p, 1)
		released, _, _ := impl.ReleaseConn(p, 2)
		closed, _ := impl.CloseIdle(p, 1)
		same, _ := impl.CloseIdle(p, 0)
		spoilPool(acquired)
		spoilPool(released)
		spoilPool(closed)
		spoilPool(same)
		for _, conns := range [][]int{impl.HeldBy(p, 2), impl.HeldBy(p, 4)} {
			conns[0] = -77
			_ = append(conns, -77)
		}
		if !sameNumbers(a, copyOf(idle, 0, 0, 0)) || !sameNumbers(c, copyOf(wait, 0, 0, 0)) {
			t.Errorf("results share memory with the argument, whose numbers become %v and %v", a, c)
		}
		if !sameHolds(b, holdsBut(holds, -1, impl.Hold{}, impl.Hold{}, impl.Hold{})) {
			t.Errorf("results share memory with the argument, whose holds become %v", b)
		}
	}
}

func TestPoolResultsStayWhenTheArgumentChanges(t *testing.T) {
	for _, p := range mixedPools() {
		before := impl.Pool{Max: p.Max, Idle: copyOf(p.Idle), Held: holdsBut(p.Held, -1), Wait: copyOf(p.Wait)}
		same, _ := impl.CloseIdle(p, 0)
		acquired, _, _ := impl.AcquireConn(p, 1)
		again, _, _ := impl.AcquireConn(before, 1)
		spoilPool(p)
		if !samePool(same, before) || !samePool(acquired, again) {
			t.Errorf("results of %v become %v and %v", before, same, acquired)
		}
	}
}

func TestPoolResultsHaveSeparateLists(t *testing.T) {
	for _, p := range manyPools() {
		out, _, ok := impl.AcquireConn(p, 2)
		if !ok {
			continue
		}
		wait := copyOf(out.Wait)
		held := holdsBut(out.Held, -1)
		for i := range out.Idle {
			out.Idle[i] = -77
		}
		out.Idle = append(out.Idle, -77, -77)
		if !sameNumbers(out.Wait, wait) || !sameHolds(out.Held, held) {
			t.Fatalf("lists of one result of %v share memory", p)
		}
	}
}
