package tests

import (
	"testing"

	"loop.example/connectionpool/impl"
)

// oneHost returns lists of the host 0 alone.
func oneHost() [][]impl.Host {
	var out [][]impl.Host
	for _, load := range []int{0, 1, 99, 100} {
		out = append(out, []impl.Host{{Load: load}}, []impl.Host{{Load: load, Down: true}})
	}
	return out
}

// twoHosts returns lists of two hosts, with loads and lags at both ends of their limits.
func twoHosts() [][]impl.Host {
	var out [][]impl.Host
	for _, first := range oneHost() {
		for _, second := range oneHost() {
			for _, lag := range []int{0, 5, 1000} {
				host := impl.Host{Load: second[0].Load, Lag: lag, Down: second[0].Down}
				out = append(out, []impl.Host{first[0], host})
			}
		}
	}
	return out
}

// mixedHosts returns so many hosts in a pattern of a number, many with equal loads or lags.
func mixedHosts(many int, pattern int) []impl.Host {
	lags := []int{0, 5, 5, 20, 999, 1000}
	base := 0
	if pattern%4 == 3 {
		base = 98
	}
	var out []impl.Host
	for i := 0; i < many; i++ {
		host := impl.Host{
			Load: base + (i*(pattern%7+1)+pattern)%3,
			Lag:  lags[(i*pattern+i)%6],
			Down: pattern%3 != 0 && (pattern/3>>i)%2 == 1,
		}
		if i == 0 {
			host.Lag = 0
		}
		out = append(out, host)
	}
	return out
}

// manyHosts returns valid lists of all lengths.
func manyHosts() [][]impl.Host {
	out := append(oneHost(), twoHosts()...)
	for many := 3; many <= impl.MaxHosts; many++ {
		for pattern := 0; pattern < 96; pattern++ {
			out = append(out, mixedHosts(many, pattern))
		}
	}
	return out
}

// wrongHosts returns lists of hosts that are not valid, each for one reason alone, where that can be.
func wrongHosts() [][]impl.Host {
	out := [][]impl.Host{nil, {}, make([]impl.Host, 6), make([]impl.Host, 100000)}
	for _, lag := range []int{1, 5, 1000} {
		out = append(out, []impl.Host{{Lag: lag}}, []impl.Host{{Lag: lag, Down: true}}, []impl.Host{{Lag: lag}, {Lag: 0}})
	}
	for _, x := range []impl.Host{
		{Load: -1},
		{Load: 101},
		{Load: minInt},
		{Load: maxInt},
		{Lag: -1},
		{Lag: 1001},
		{Lag: minInt},
		{Lag: maxInt},
		{Load: -1, Down: true},
		{Load: 101, Down: true},
		{Lag: -1, Down: true},
		{Lag: 1001, Down: true},
		{Load: minInt, Lag: minInt},
		{Load: maxInt, Lag: maxInt},
	} {
		out = append(out, []impl.Host{x}, []impl.Host{{}, x}, []impl.Host{x, {}}, []impl.Host{{}, {Lag: 5}, x, {}}, []impl.Host{{}, {}, {}, {}, x})
	}
	return out
}

// someLags returns lags at both ends of their limits, and around those of the hosts.
func someLags() []int {
	return []int{0, 1, 4, 5, 6, 19, 20, 21, 998, 999, 1000}
}

// lagLists returns lists of at most MaxLine lags.
func lagLists() [][]int {
	var out [][]int
	for _, lag := range []int{0, 5, 1000} {
		same := make([]int, impl.MaxLine)
		for i := range same {
			same[i] = lag
		}
		out = append(out, same[:1], same[:2], same)
	}
	lags := someLags()
	for step := 1; step <= 5; step++ {
		var list []int
		for i := 0; i < impl.MaxLine; i++ {
			list = append(list, lags[(i*step+i*i/2)%len(lags)])
		}
		out = append(out, list[:3], list[:7], list)
	}
	return append(out, nil)
}

// wrongLags returns lists of numbers that are not all lags, or too many.
func wrongLags() [][]int {
	out := [][]int{make([]int, 13), make([]int, 100000), copyOf(make([]int, 11), 1001)}
	for _, lag := range oddNumbers() {
		out = append(out, []int{lag}, []int{lag, 0}, []int{0, lag}, []int{5, lag, 1000})
	}
	return out
}

// oddLoads returns numbers that are not in -MaxLoad..MaxLoad.
func oddLoads() []int {
	return []int{minInt, -102, -101, 101, 102, maxInt}
}

// sameHosts reports whether two lists have the same hosts in the same order.
func sameHosts(a []impl.Host, b []impl.Host) bool {
	if len(a) != len(b) {
		return false
	}
	for i := range a {
		if a[i] != b[i] {
			return false
		}
	}
	return true
}

// withLoad returns hosts of which one has a number more as its load.
func withLoad(list []impl.Host, host int, load int) []impl.Host {
	out := append([]impl.Host{}, list...)
	out[host].Load += load
	return out
}

// allDown returns the same hosts, of which none can be reached.
func allDown(list []impl.Host) []impl.Host {
	out := append([]impl.Host{}, list...)
	for i := range out {
		out[i].Down = true
	}
	return out
}

// canRead reports whether a read that may be so far behind can go to a host.
func canRead(x impl.Host, lag int) bool {
	return !x.Down && x.Lag <= lag
}

// readByHand returns the host for a read, by looking at one load after the other, and at the host 0 last.
func readByHand(list []impl.Host, lag int) int {
	for load := 0; load <= 100; load++ {
		for host := 1; host < len(list); host++ {
			if list[host].Load == load && canRead(list[host], lag) {
				return host
			}
		}
		if list[0].Load == load && canRead(list[0], lag) {
			return 0
		}
	}
	return -1
}

// readsByHand returns the hosts for reads, one after the other.
func readsByHand(list []impl.Host, lags []int) []int {
	var out []int
	for _, lag := range lags {
		host := readByHand(list, lag)
		out = append(out, host)
		if host != -1 && list[host].Load < 100 {
			list = withLoad(list, host, 1)
		}
	}
	return out
}

func TestRouteConstants(t *testing.T) {
	if impl.MaxLoad != 100 || impl.MaxHosts != 5 || impl.MaxClock != 1000 || impl.MaxLine != 12 {
		t.Error("MaxLoad, MaxHosts, MaxClock or MaxLine")
	}
}

func TestValidHosts(t *testing.T) {
	for _, list := range manyHosts() {
		if !impl.ValidHosts(list) {
			t.Fatalf("ValidHosts of %v is false", list)
		}
	}
	for i, list := range wrongHosts() {
		if impl.ValidHosts(list) {
			t.Errorf("ValidHosts of %d hosts, the wrong list %d, is true", len(list), i)
		}
	}
}

func TestWrongHostsHaveFixedResults(t *testing.T) {
	for i, list := range wrongHosts() {
		for _, lag := range append(oddNumbers(), someLags()...) {
			if impl.RouteRead(list, lag) != -1 {
				t.Errorf("RouteRead of the wrong list %d with %d = %d", i, lag, impl.RouteRead(list, lag))
			}
		}
		if impl.RouteWrite(list) != -1 {
			t.Errorf("RouteWrite of the wrong list %d = %d", i, impl.RouteWrite(list))
		}
		for host := -1; host <= impl.MaxHosts; host++ {
			// Some of these loads would mend a load that is out of its bounds.
			for _, load := range []int{-100, -1, 0, 1, 100} {
				checkUnloaded(t, list, host, load)
			}
		}
		for _, lags := range [][]int{nil, {0}, {5, 1000}} {
			if out := impl.RouteReads(list, lags); len(out) != 0 {
				t.Errorf("RouteReads of the wrong list %d with %v = %v", i, lags, out)
			}
		}
	}
}

// checkUnloaded checks what AddLoad returns where it fails.
func checkUnloaded(t *testing.T, list []impl.Host, host int, load int) {
	if out, ok := impl.AddLoad(list, host, load); ok || len(out) != 0 {
		t.Fatalf("AddLoad of %d hosts, %d, %d = %v, %v", len(list), host, load, out, ok)
	}
}

func TestOddArgumentsOfHostsHaveFixedResults(t *testing.T) {
	for _, list := range manyHosts() {
		for _, lag := range oddNumbers() {
			if impl.RouteRead(list, lag) != -1 {
				t.Fatalf("RouteRead of %v with %d = %d", list, lag, impl.RouteRead(list, lag))
			}
		}
		for _, lags := range wrongLags() {
			if out := impl.RouteReads(list, lags); len(out) != 0 {
				t.Fatalf("RouteReads of %v with %d lags = %v", list, len(lags), out)
			}
		}
		for _, host := range []int{minInt, -1, len(list), len(list) + 1, 1001, maxInt} {
			for _, load := range []int{-1, 0, 1} {
				checkUnloaded(t, list, host, load)
			}
		}
		for host := range list {
			for _, load := range oddLoads() {
				checkUnloaded(t, list, host, load)
			}
		}
	}
}

func TestRouteReadByHand(t *testing.T) {
	for _, x := range []struct {
		list []impl.Host
		lag  int
		want int
	}{
		// The host 0 is the last one of those with equal loads, and else the least one is the first.
		{[]impl.Host{{Load: 3}, {Load: 3}}, 0, 1},
		{[]impl.Host{{Load: 3}, {Load: 3}, {Load: 3}}, 0, 1},
		{[]impl.Host{{Load: 3}, {Load: 4}, {Load: 3}, {Load: 3}}, 0, 2},
		{[]impl.Host{{Load: 3}, {Load: 3, Down: true}, {Load: 4}, {Load: 3}}, 0, 3},
		{[]impl.Host{{Load: 9}, {Load: 4}, {Load: 3}, {Load: 5}, {Load: 3}}, 0, 2},
		// With less load than all others the host 0 is read, too.
		{[]impl.Host{{Load: 2}, {Load: 3}, {Load: 4}}, 0, 0},
		{[]impl.Host{{Load: 100}, {Load: 0, Down: true}}, 0, 0},
		{[]impl.Host{{Load: 100}, {Load: 0, Lag: 1}}, 0, 0},
		{[]impl.Host{{Load: 100}}, 0, 0},
		// A lag that is just enough, and 1 too little.
		{[]impl.Host{{Load: 9}, {Load: 0, Lag: 20}, {Load: 5, Lag: 5}}, 20, 1},
		{[]impl.Host{{Load: 9}, {Load: 0, Lag: 20}, {Load: 5, Lag: 5}}, 19, 2},
		{[]impl.Host{{Load: 9}, {Load: 0, Lag: 20}, {Load: 5, Lag: 5}}, 5, 2},
		{[]impl.Host{{Load: 9}, {Load: 0, Lag: 20}, {Load: 5, Lag: 5}}, 4, 0},
		{[]impl.Host{{Load: 9}, {Load: 0, Lag: 1000}}, 1000, 1},
		{[]impl.Host{{Load: 9}, {Load: 0, Lag: 1000}}, 999, 0},
		// Hosts that are down, though they have less load.
		{[]impl.Host{{Load: 0, Down: true}, {Load: 100}}, 0, 1},
		{[]impl.Host{{Load: 0, Down: true}, {Load: 100, Lag: 7}}, 6, -1},
		{[]impl.Host{{Load: 9}, {Load: 0, Down: true}, {Load: 9}, {Load: 1, Down: true}}, 50, 2},
		{[]impl.Host{{Load: 9, Down: true}, {Load: 0, Down: true}}, 1000, -1},
		{[]impl.Host{{Down: true}}, 1000, -1},
	} {
		if out := impl.RouteRead(x.list, x.lag); out != x.want {
			t.Errorf("RouteRead of %v with %d = %d, not %d", x.list, x.lag, out, x.want)
		}
	}
}

func TestRouteReadsByHand(t *testing.T) {
	for _, x := range []struct {
		list []impl.Host
		lags []int
		want []int
	}{
		{[]impl.Host{{Load: 1}, {Load: 0}, {Load: 2}}, []int{0, 0, 0, 0, 0, 0}, []int{1, 1, 0, 1, 2, 0}},
		// Reads for which there is no host change no load, and those after them go on.
		{[]impl.Host{{Down: true}, {Load: 0, Lag: 5}, {Load: 1, Lag: 9}}, []int{4, 9, 4, 9, 9, 5, 9}, []int{-1, 1, -1, 1, 2, 1, 2}},
		{[]impl.Host{{Down: true}, {Down: true}}, []int{0, 1000, 5}, []int{-1, -1, -1}},
		// A load of MaxLoad stays, and the host is read again.
		{[]impl.Host{{Load: 100}, {Load: 99, Lag: 5}}, []int{5, 5, 5, 0, 5}, []int{1, 1, 1, 0, 1}},
		{[]impl.Host{{Load: 99}, {Load: 100, Lag: 5}, {Load: 100, Lag: 5}}, []int{5, 5, 5, 0}, []int{0, 1, 1, 0}},
		{[]impl.Host{{Load: 98}, {Load: 100}}, []int{0, 0, 0}, []int{0, 0, 1}},
		// As many reads as can be.
		{[]impl.Host{{}, {}, {}, {}, {}}, make([]int, 12), []int{1, 2, 3, 4, 0, 1, 2, 3, 4, 0, 1, 2}},
		{[]impl.Host{{}, {}}, nil, nil},
	} {
		if out := impl.RouteReads(x.list, x.lags); !sameNumbers(out, x.want) {
			t.Errorf("RouteReads of %v with %v = %v, not %v", x.list, x.lags, out, x.want)
		}
	}
}

func TestRoutesStepByStep(t *testing.T) {
	for _, list := range manyHosts() {
		for _, lag := range someLags() {
			if out := impl.RouteRead(list, lag); out != readByHand(list, lag) {
				t.Fatalf("RouteRead of %v with %d = %d, not %d", list, lag, out, readByHand(list, lag))
			}
		}
		for _, lags := range lagLists() {
			if out := impl.RouteReads(list, lags); !sameNumbers(out, readsByHand(list, lags)) {
				t.Fatalf("RouteReads of %v with %v = %v, not %v", list, lags, out, readsByHand(list, lags))
			}
		}
	}
}

func TestP75HostsCanBeLeftOut(t *testing.T) {
	for _, list := range manyHosts() {
		if impl.ValidHosts(list[:len(list)-1]) != (len(list) > 1) {
			t.Fatalf("ValidHosts of %v without the last one = %v", list, len(list) <= 1)
		}
	}
}

func TestP76ReadsGoWhereThereIsLittleLoad(t *testing.T) {
	found, none := 0, 0
	for _, list := range manyHosts() {
		for _, lag := range someLags() {
			host := impl.RouteRead(list, lag)
			if host < -1 || host >= len(list) || host != -1 && !canRead(list[host], lag) {
				t.Fatalf("RouteRead of %v with %d = %d", list, lag, host)
			}
			for other, x := range list {
				if canRead(x, lag) && (host == -1 || x.Load < list[host].Load) {
					t.Fatalf("RouteRead of %v with %d = %d, and not %d", list, lag, host, other)
				}
			}
			if host == -1 {
				none++
			} else {
				found++
			}
		}
	}
	if found == 0 || none == 0 {
		t.Errorf("RouteRead finds %d hosts, and %d times none", found, none)
	}
}

func TestP77PatienceFindsMore(t *testing.T) {
	less, more := 0, 0
	for _, list := range manyHosts() {
		lags := someLags()
		for i := 1; i < len(lags); i++ {
			before, after := impl.RouteRead(list, lags[i-1]), impl.RouteRead(list, lags[i])
			if before == -1 {
				if after != -1 {
					more++
				}
				continue
			}
			if after == -1 || list[after].Load > list[before].Load {
				t.Fatalf("RouteRead of %v with %d = %d, and with %d %d", list, lags[i-1], before, lags[i], after)
			}
			if list[after].Load < list[before].Load {
				less++
			}
		}
	}
	if less == 0 || more == 0 {
		t.Errorf("a greater lag finds less load %d times, and a host at all %d times", less, more)
	}
}

func TestP78WritesGoToTheHost0(t *testing.T) {
	for _, list := range manyHosts() {
		want := 0
		if list[0].Down {
			want = -1
		}
		if impl.RouteWrite(list) != want {
			t.Fatalf("RouteWrite of %v = %d", list, impl.RouteWrite(list))
		}
		if want == 0 && impl.RouteRead(list, 0) == -1 {
			t.Fatalf("RouteRead of %v with 0 is -1", list)
		}
	}
}

// edgeLoads returns all loads by which that of a host comes to the ends of its limits, and next to them.
func edgeLoads(x impl.Host) []int {
	var out []int
	for _, load := range []int{-100, -99, -x.Load - 1, -x.Load, -x.Load + 1, -1, 0, 1, 99 - x.Load, 100 - x.Load, 101 - x.Load, 99, 100} {
		if load >= -100 && load <= 100 {
			out = append(out, load)
		}
	}
	return out
}

func TestP79LoadsAreAdded(t *testing.T) {
	added := 0
	for _, list := range manyHosts() {
		for host, x := range list {
			for _, load := range edgeLoads(x) {
				out, ok := impl.AddLoad(list, host, load)
				if !ok {
					continue
				}
				added++
				if !sameHosts(out, withLoad(list, host, load)) {
					t.Fatalf("AddLoad of %v, %d, %d = %v", list, host, load, out)
				}
				if back, ok := impl.AddLoad(out, host, -load); !ok || !sameHosts(back, list) {
					t.Fatalf("AddLoad of %v, %d, %d = %v, %v", out, host, -load, back, ok)
				}
			}
		}
	}
	if added == 0 {
		t.Error("AddLoad never succeeds")
	}
}

func TestP80ReadsAreSpread(t *testing.T) {
	loaded, full, none := 0, 0, 0
	for _, list := range manyHosts() {
		for _, lags := range lagLists() {
			hosts := impl.RouteReads(list, lags)
			if len(hosts) != len(lags) {
				t.Fatalf("RouteReads of %v with %v = %v", list, lags, hosts)
			}
			if len(lags) == 0 {
				continue
			}
			host := impl.RouteRead(list, lags[0])
			if hosts[0] != host {
				t.Fatalf("RouteReads of %v with %v = %v, and RouteRead is %d", list, lags, hosts, host)
			}
			after := list
			switch {
			case host == -1:
				none++
			case list[host].Load == impl.MaxLoad:
				full++
			default:
				loaded++
				after, _ = impl.AddLoad(list, host, 1)
			}
			if rest := impl.RouteReads(after, lags[1:]); !sameNumbers(rest, hosts[1:]) {
				t.Fatalf("RouteReads of %v with %v = %v, and goes on with %v", list, lags, hosts, rest)
			}
		}
	}
	if loaded == 0 || full == 0 || none == 0 {
		t.Errorf("%d hosts get more load, %d have MaxLoad, and %d times there is none", loaded, full, none)
	}
}

func TestP81LaterReadsDoNotMatter(t *testing.T) {
	for _, list := range manyHosts() {
		for _, lags := range lagLists() {
			all := impl.RouteReads(list, lags)
			for first := 0; first <= len(lags); first++ {
				if out := impl.RouteReads(list, lags[:first]); !sameNumbers(out, all[:first]) {
					t.Fatalf("RouteReads of %v with the first %d of %v = %v, not %v", list, first, lags, out, all[:first])
				}
			}
		}
	}
}

func TestP159HostsThatAreDownAreNotRead(t *testing.T) {
	for _, list := range manyHosts() {
		down := allDown(list)
		if !impl.ValidHosts(down) || impl.RouteWrite(down) != -1 {
			t.Fatalf("RouteWrite of %v = %d", down, impl.RouteWrite(down))
		}
		for _, lag := range someLags() {
			if impl.RouteRead(down, lag) != -1 {
				t.Fatalf("RouteRead of %v with %d = %d", down, lag, impl.RouteRead(down, lag))
			}
		}
		for _, lags := range lagLists() {
			if out := impl.RouteReads(down, lags); len(out) != len(lags) || countOf(out, -1) != len(lags) {
				t.Fatalf("RouteReads of %v with %v = %v", down, lags, out)
			}
		}
	}
}

// twoUp returns hosts without load of which all but two are down.
func twoUp(many int, a int, b int, lag int) []impl.Host {
	out := allDown(make([]impl.Host, many))
	for host := range out {
		if host > 0 {
			out[host].Lag = lag
		}
	}
	out[a].Down = false
	out[b].Down = false
	return out
}

func TestP160ReadsAreSpreadEvenly(t *testing.T) {
	lags := make([]int, impl.MaxLine)
	for i := range lags {
		lags[i] = impl.MaxClock
	}
	for _, lag := range someLags() {
		if out := impl.RouteReads(twoUp(2, 0, 1, lag), lags); !sameNumbers(out, []int{1, 0, 1, 0, 1, 0, 1, 0, 1, 0, 1, 0}) {
			t.Errorf("RouteReads of two hosts, one behind by %d, = %v", lag, out)
		}
		for a := 0; a < impl.MaxHosts; a++ {
			for b := a + 1; b < impl.MaxHosts; b++ {
				list := twoUp(impl.MaxHosts, a, b, lag)
				out := impl.RouteReads(list, lags)
				if countOf(out, a) != 6 || countOf(out, b) != 6 {
					t.Fatalf("RouteReads of %v = %v", list, out)
				}
				for i := 1; i < len(out); i++ {
					if out[i] == out[i-1] {
						t.Fatalf("RouteReads of %v = %v", list, out)
					}
				}
			}
		}
	}
}

func TestP161LoadsStayInTheirBounds(t *testing.T) {
	less, more := 0, 0
	for _, list := range manyHosts() {
		for host, x := range list {
			for _, load := range edgeLoads(x) {
				_, ok := impl.AddLoad(list, host, load)
				if ok != (x.Load+load >= 0 && x.Load+load <= 100) {
					t.Fatalf("AddLoad of %v, %d, %d tells %v", list, host, load, ok)
				}
				if ok {
					continue
				}
				checkUnloaded(t, list, host, load)
				if load < 0 {
					less++
				} else {
					more++
				}
			}
		}
	}
	if less == 0 || more == 0 {
		t.Errorf("AddLoad fails %d times with less than 0, and %d times with more than MaxLoad", less, more)
	}
}

func TestHostsShareNoMemory(t *testing.T) {
	// What lies behind each list is memory of the arguments, too.
	memory := [4]impl.Host{{Load: 1}, {Load: 1, Lag: 5}, {Load: 7, Lag: 9}, {Load: 8, Down: true}}
	lags := []int{5, 5, 0, 9, 9}
	given := memory
	list := memory[:2]
	impl.ValidHosts(list)
	impl.RouteRead(list, 5)
	impl.RouteWrite(list)
	spoilNumbers(impl.RouteReads(list, lags[:3]))
	for _, load := range []int{0, 1} {
		out, ok := impl.AddLoad(list, 1, load)
		if !ok {
			t.Fatalf("AddLoad of %d fails", load)
		}
		for i := range out {
			out[i] = impl.Host{Load: -77}
		}
		_ = append(out, impl.Host{Load: -77})
	}
	if memory != given || !sameNumbers(lags, []int{5, 5, 0, 9, 9}) {
		t.Errorf("the arguments become %v and %v", memory, lags)
	}
	if again := impl.RouteReads(list, lags[:3]); !sameNumbers(again, []int{1, 0, 0}) {
		t.Errorf("RouteReads the second time = %v", again)
	}
}

func TestHostResultsStayWhenTheArgumentChanges(t *testing.T) {
	for _, list := range manyHosts() {
		same, ok := impl.AddLoad(list, 0, 0)
		before := append([]impl.Host{}, list...)
		for i := range list {
			list[i] = impl.Host{Load: -77}
		}
		if !ok || !sameHosts(same, before) {
			t.Fatalf("AddLoad of %v becomes %v", before, same)
		}
	}
}
