package tests

import (
	"testing"

	"loop.example/connectionpool/impl"
)

// namesOf returns so many different names, from one on in steps that pass all names.
func namesOf(many int, first int, step int) []int {
	var out []int
	for i := 0; i < many; i++ {
		out = append(out, (first+i*step)%10)
	}
	return out
}

// cachesOf returns valid caches with a room, from none of their names to as many as there is room for.
func cachesOf(room int) []impl.Cache {
	out := []impl.Cache{{Room: room}}
	for many := 1; many <= room; many++ {
		for first := 0; first < 10; first++ {
			for _, step := range []int{1, 3, 9} {
				out = append(out, impl.Cache{Room: room, Names: namesOf(many, first, step)})
			}
		}
	}
	return out
}

// manyCaches returns valid caches with every room.
func manyCaches() []impl.Cache {
	var out []impl.Cache
	for room := 0; room <= 6; room++ {
		out = append(out, cachesOf(room)...)
	}
	return out
}

// wrongCaches returns caches that are not valid, each for one reason alone, where that can be.
func wrongCaches() []impl.Cache {
	out := []impl.Cache{
		{Room: -1},
		{Room: 7},
		{Room: minInt},
		{Room: maxInt},
		{Room: -1, Names: []int{1}},
		{Room: 7, Names: []int{0, 1, 2, 3, 4, 5}},
		{Room: 7, Names: []int{0, 1, 2, 3, 4, 5, 6}},
		{Room: 0, Names: []int{1}},
		{Room: 1, Names: []int{1, 2}},
		{Room: 3, Names: []int{4, 3, 2, 1}},
		{Room: 6, Names: []int{0, 1, 2, 3, 4, 5, 6}},
		{Room: 6, Names: make([]int, 100000)},
		{Room: maxInt, Names: make([]int, 100000)},
		{Room: 2, Names: []int{1, 1}},
		{Room: 6, Names: []int{3, 3}},
		{Room: 6, Names: []int{3, 5, 3}},
		{Room: 6, Names: []int{3, 5, 7, 5}},
		{Room: 6, Names: []int{0, 1, 2, 3, 4, 0}},
	}
	for _, name := range oddNames() {
		for _, names := range [][]int{{name}, {name, 4}, {4, name}, {4, name, 5}, {0, 1, 2, 3, 4, name}} {
			out = append(out, impl.Cache{Room: 6, Names: names})
		}
	}
	return out
}

// oddNames returns numbers that are not names.
func oddNames() []int {
	return []int{minInt, minInt + 1, -2, -1, 10, 11, 16, 1000, maxInt}
}

// manyUses returns lists of up to MaxUses names that are used one after the other.
func manyUses() [][]int {
	out := [][]int{nil, {0}, {9}, {4, 4}, make([]int, 16)}
	for around := 1; around <= 8; around++ {
		var list []int
		for i := 0; i < 16; i++ {
			list = append(list, (i%around+around)%10)
		}
		out = append(out, list)
	}
	for step := 1; step <= 12; step++ {
		var list []int
		for i := 0; i < 16; i++ {
			list = append(list, (i*step+i*i/(step%4+2))%10)
		}
		out = append(out, list[:3], list[:7], list[:15], list)
	}
	return out
}

// wrongUses returns lists of numbers that are not all names, or too many.
func wrongUses() [][]int {
	out := [][]int{make([]int, 17), make([]int, 100000), copyOf(make([]int, 15), 10), copyOf(make([]int, 15), -1)}
	for _, name := range oddNames() {
		out = append(out, []int{name}, []int{name, 0}, []int{0, name}, []int{4, name, 9})
	}
	return out
}

// differentNames returns lists of names of which none is there twice.
func differentNames() [][]int {
	out := [][]int{nil}
	for many := 1; many <= 10; many++ {
		for _, step := range []int{1, 7, 9} {
			out = append(out, namesOf(many, many, step), namesOf(many, 0, step))
		}
	}
	return out
}

// sameCache reports whether two caches are the same.
func sameCache(a impl.Cache, b impl.Cache) bool {
	return a.Room == b.Room && sameNumbers(a.Names, b.Names)
}

// withMoreRoom returns a cache with the same names, and room for 1 more.
func withMoreRoom(c impl.Cache) impl.Cache {
	return impl.Cache{Room: c.Room + 1, Names: copyOf(c.Names)}
}

// lastUsed returns at most so many different names of those that were used, the ones that were used last, in the order of their last use.
func lastUsed(history []int, many int) []int {
	var out []int
	for i := len(history) - 1; i >= 0 && len(out) < many; i-- {
		if !hasNumber(out, history[i]) {
			out = append([]int{history[i]}, out...)
		}
	}
	return out
}

// usedByHand returns a cache after a name was used, and whether it had been there, as its names and this one tell as a history.
func usedByHand(c impl.Cache, name int) (impl.Cache, bool) {
	names := lastUsed(copyOf(c.Names, name), c.Room)
	return impl.Cache{Room: c.Room, Names: names}, hasNumber(c.Names, name)
}

// preparesByHand returns how many names are not among those that were used last before them.
func preparesByHand(c impl.Cache, names []int) int {
	count := 0
	for i, name := range names {
		if !hasNumber(lastUsed(copyOf(c.Names, names[:i]...), c.Room), name) {
			count++
		}
	}
	return count
}

// commonOf returns how many of some names a cache has.
func commonOf(c impl.Cache, names []int) int {
	count := 0
	for _, name := range names {
		count += countOf(c.Names, name)
	}
	return count
}

// bestByHand returns the place of the best cache, by looking for one that has all names, then for one that has all but one, and so on.
func bestByHand(list []impl.Cache, names []int) int {
	for many := len(names); many >= 0; many-- {
		for place, c := range list {
			if commonOf(c, names) == many {
				return place
			}
		}
	}
	return -1
}

// cacheLists returns lists of one to MaxConn valid caches.
func cacheLists() [][]impl.Cache {
	all := manyCaches()
	var out [][]impl.Cache
	for many := 1; many <= 6; many++ {
		for pattern := 0; pattern < 25; pattern++ {
			var list []impl.Cache
			for i := 0; i < many; i++ {
				list = append(list, all[(pattern*97+i*(pattern*31+7))%len(all)])
			}
			out = append(out, list)
		}
	}
	return out
}

func TestStatementConstants(t *testing.T) {
	if impl.MaxRoom != 6 || impl.MaxName != 9 || impl.MaxUses != 16 || impl.MaxConn != 6 {
		t.Error("MaxRoom, MaxName, MaxUses or MaxConn")
	}
}

func TestValidCache(t *testing.T) {
	for _, c := range manyCaches() {
		if !impl.ValidCache(c) {
			t.Fatalf("ValidCache of %v is false", c)
		}
	}
	for _, c := range wrongCaches() {
		if impl.ValidCache(c) {
			t.Errorf("ValidCache of a room for %d and %d names is true", c.Room, len(c.Names))
		}
	}
}

func TestWrongCachesHaveFixedResults(t *testing.T) {
	for _, c := range wrongCaches() {
		for _, name := range append(oddNames(), 0, 1, 3, 4, 5, 9) {
			checkUnused(t, c, name)
			checkUndropped(t, c, name)
		}
		for _, names := range append(wrongUses(), manyUses()...) {
			if impl.CountPrepares(c, names) != -1 {
				t.Fatalf("CountPrepares of a room for %d and %d names = %d", c.Room, len(c.Names), impl.CountPrepares(c, names))
			}
		}
		good := impl.Cache{Room: 6, Names: []int{4, 0, 1}}
		for _, names := range [][]int{nil, {4}, {0, 1}} {
			for _, list := range [][]impl.Cache{{c}, {c, good}, {good, c}, {good, c, good}, {good, good, good, good, good, c}} {
				checkNoBest(t, list, names)
			}
		}
	}
}

func TestOddNamesHaveFixedResults(t *testing.T) {
	for _, c := range manyCaches() {
		for _, name := range oddNames() {
			checkUnused(t, c, name)
			checkUndropped(t, c, name)
		}
		for _, names := range wrongUses() {
			if impl.CountPrepares(c, names) != -1 {
				t.Fatalf("CountPrepares of %v with %d names = %d", c, len(names), impl.CountPrepares(c, names))
			}
			checkNoBest(t, []impl.Cache{c}, names)
			checkNoBest(t, []impl.Cache{{}, c}, names)
		}
	}
}

// checkUnused checks what UseStatement returns for arguments that are not valid.
func checkUnused(t *testing.T, c impl.Cache, name int) {
	if out, there := impl.UseStatement(c, name); there || !sameCache(out, impl.Cache{}) {
		t.Fatalf("UseStatement of a room for %d, %d names and %d = %v, %v", c.Room, len(c.Names), name, out, there)
	}
}

// checkUndropped checks what DropStatement returns where it fails.
func checkUndropped(t *testing.T, c impl.Cache, name int) {
	if out, ok := impl.DropStatement(c, name); ok || !sameCache(out, impl.Cache{}) {
		t.Fatalf("DropStatement of a room for %d, %d names and %d = %v, %v", c.Room, len(c.Names), name, out, ok)
	}
}

// checkNoBest checks what BestCache returns for arguments that are not valid.
func checkNoBest(t *testing.T, list []impl.Cache, names []int) {
	if out := impl.BestCache(list, names); out != -1 {
		t.Fatalf("BestCache of %d caches with %d names = %d", len(list), len(names), out)
	}
}

func TestUseStatementByHand(t *testing.T) {
	for _, x := range []struct {
		room  int
		names []int
		name  int
		want  []int
		there bool
	}{
		// From the beginning, the middle and the end.
		{3, []int{1, 2, 3}, 1, []int{2, 3, 1}, true},
		{3, []int{1, 2, 3}, 2, []int{1, 3, 2}, true},
		{3, []int{1, 2, 3}, 3, []int{1, 2, 3}, true},
		{5, []int{1, 2, 3}, 1, []int{2, 3, 1}, true},
		// A new name, with room, and without room for all.
		{4, []int{1, 2, 3}, 7, []int{1, 2, 3, 7}, false},
		{3, []int{1, 2, 3}, 7, []int{2, 3, 7}, false},
		{3, []int{9, 8, 7}, 0, []int{8, 7, 0}, false},
		{1, []int{4}, 5, []int{5}, false},
		{1, []int{4}, 4, []int{4}, true},
		{1, nil, 4, []int{4}, false},
		{6, nil, 0, []int{0}, false},
		{6, []int{0, 1, 2, 3, 4, 5}, 9, []int{1, 2, 3, 4, 5, 9}, false},
		{6, []int{0, 1, 2, 3, 4, 5}, 0, []int{1, 2, 3, 4, 5, 0}, true},
		{6, []int{9, 1, 2, 3, 4}, 0, []int{9, 1, 2, 3, 4, 0}, false},
		// No room at all.
		{0, nil, 0, nil, false},
		{0, nil, 9, nil, false},
	} {
		out, there := impl.UseStatement(impl.Cache{Room: x.room, Names: x.names}, x.name)
		if out.Room != x.room || !sameNumbers(out.Names, x.want) || there != x.there {
			t.Errorf("UseStatement of %d, %v, %d = %v, %v, not %v, %v", x.room, x.names, x.name, out, there, x.want, x.there)
		}
	}
}

func TestCountPreparesByHand(t *testing.T) {
	for _, x := range []struct {
		room  int
		names []int
		uses  []int
		want  int
	}{
		{3, []int{1, 2, 3}, []int{1, 2, 4, 3, 4}, 2},
		{3, []int{1, 2, 3}, []int{3, 2, 1, 3, 2, 1}, 0},
		{3, nil, []int{1, 2, 3, 1, 2, 3}, 3},
		// One name more than there is room for, around and around.
		{3, nil, []int{1, 2, 3, 4, 1, 2, 3, 4}, 8},
		{2, []int{1, 2}, []int{3, 1, 2, 3, 1, 2}, 6},
		// Who is used stays, and the one that was not used for longest goes.
		{2, []int{1, 2}, []int{1, 3, 1, 3, 2, 1}, 3},
		// No room at all.
		{0, nil, []int{1, 1}, 2},
		{0, nil, make([]int, 16), 16},
		{0, nil, nil, 0},
		// As many names as can be.
		{1, nil, make([]int, 16), 1},
		{1, []int{0}, make([]int, 16), 0},
		{1, nil, []int{0, 1, 0, 1, 0, 1, 0, 1, 0, 1, 0, 1, 0, 1, 0, 1}, 16},
		{2, nil, []int{0, 1, 0, 1, 0, 1, 0, 1, 0, 1, 0, 1, 0, 1, 0, 1}, 2},
		{6, []int{9, 8, 7, 6, 5, 4}, []int{0, 1, 2, 3, 4, 5, 6, 7, 8, 9, 0, 1, 2, 3, 4, 5}, 14},
		{6, []int{1}, nil, 0},
	} {
		if out := impl.CountPrepares(impl.Cache{Room: x.room, Names: x.names}, x.uses); out != x.want {
			t.Errorf("CountPrepares of %d, %v with %v = %d, not %d", x.room, x.names, x.uses, out, x.want)
		}
	}
}

func TestDropStatementByHand(t *testing.T) {
	c := impl.Cache{Room: 4, Names: []int{3, 0, 9}}
	for _, x := range []struct {
		name int
		want []int
	}{
		{3, []int{0, 9}},
		{0, []int{3, 9}},
		{9, []int{3, 0}},
	} {
		if out, ok := impl.DropStatement(c, x.name); !ok || out.Room != 4 || !sameNumbers(out.Names, x.want) {
			t.Errorf("DropStatement of %v, %d = %v, %v", c, x.name, out, ok)
		}
	}
	if out, ok := impl.DropStatement(impl.Cache{Room: 1, Names: []int{5}}, 5); !ok || !sameCache(out, impl.Cache{Room: 1}) {
		t.Errorf("DropStatement of the only name = %v, %v", out, ok)
	}
	for _, name := range []int{1, 2, 4, 5, 6, 7, 8} {
		checkUndropped(t, c, name)
	}
	for name := 0; name < 10; name++ {
		checkUndropped(t, impl.Cache{}, name)
		checkUndropped(t, impl.Cache{Room: 6}, name)
	}
}

func TestBestCacheByHand(t *testing.T) {
	a := impl.Cache{Room: 6, Names: []int{0, 1, 2, 3}}
	b := impl.Cache{Room: 3, Names: []int{3, 4, 5}}
	c := impl.Cache{Room: 6, Names: []int{9, 8, 5, 4, 3, 2}}
	none := impl.Cache{}
	for _, x := range []struct {
		list  []impl.Cache
		names []int
		want  int
	}{
		{[]impl.Cache{a, b, c}, []int{0}, 0},
		{[]impl.Cache{a, b, c}, []int{4}, 1},
		{[]impl.Cache{a, b, c}, []int{4, 5, 9}, 2},
		{[]impl.Cache{a, b, c}, []int{1, 4, 5}, 1},
		{[]impl.Cache{c, b, a}, []int{0, 1, 3}, 2},
		// Of several the first one.
		{[]impl.Cache{a, b, c}, []int{3}, 0},
		{[]impl.Cache{c, a, b}, []int{3}, 0},
		{[]impl.Cache{none, c, b, a}, []int{3}, 1},
		{[]impl.Cache{a, b, c}, []int{0, 5}, 0},
		// Names that no cache has, and no names.
		{[]impl.Cache{a, b, c}, []int{6, 7}, 0},
		{[]impl.Cache{none, a}, []int{6, 7}, 0},
		{[]impl.Cache{none, a}, nil, 0},
		{[]impl.Cache{none}, []int{1}, 0},
		{[]impl.Cache{a, b, c}, []int{6, 8, 7}, 2},
		// What a cache has beside the names does not matter, nor does its room.
		{[]impl.Cache{c, b}, []int{4, 5}, 0},
		{[]impl.Cache{b, c}, []int{4, 5}, 0},
		{[]impl.Cache{{Room: 6, Names: []int{1}}, {Room: 2, Names: []int{1, 7}}}, []int{7}, 1},
		// As many caches and as many names as can be.
		{[]impl.Cache{none, none, none, none, none, b}, []int{3}, 5},
		{[]impl.Cache{b, a, none, b, a, c}, []int{9, 8, 7, 6, 5, 4, 3, 2, 1, 0}, 5},
		// None, too many, and names that are there twice.
		{nil, nil, -1},
		{nil, []int{1}, -1},
		{[]impl.Cache{a, a, a, a, a, a, a}, []int{1}, -1},
		{make([]impl.Cache, 7), nil, -1},
		{make([]impl.Cache, 100000), nil, -1},
		{[]impl.Cache{a}, []int{1, 1}, -1},
		{[]impl.Cache{a}, []int{7, 1, 2, 7}, -1},
		{[]impl.Cache{a}, []int{0, 1, 2, 3, 4, 5, 6, 7, 8, 9, 0}, -1},
		{[]impl.Cache{a}, make([]int, 16), -1},
		{[]impl.Cache{a}, make([]int, 100000), -1},
	} {
		if out := impl.BestCache(x.list, x.names); out != x.want {
			t.Errorf("BestCache of %d caches with %d names = %d, not %d", len(x.list), len(x.names), out, x.want)
		}
	}
}

func TestStatementsStepByStep(t *testing.T) {
	for _, c := range manyCaches() {
		for name := 0; name < 10; name++ {
			out, there := impl.UseStatement(c, name)
			want, wanted := usedByHand(c, name)
			if !sameCache(out, want) || there != wanted {
				t.Fatalf("UseStatement of %v, %d = %v, %v, not %v, %v", c, name, out, there, want, wanted)
			}
		}
		for _, names := range manyUses() {
			if out := impl.CountPrepares(c, names); out != preparesByHand(c, names) {
				t.Fatalf("CountPrepares of %v with %v = %d, not %d", c, names, out, preparesByHand(c, names))
			}
		}
	}
	for _, list := range cacheLists() {
		for _, names := range differentNames() {
			if out := impl.BestCache(list, names); out != bestByHand(list, names) {
				t.Fatalf("BestCache of %v with %v = %d, not %d", list, names, out, bestByHand(list, names))
			}
		}
	}
}

func TestP82CachesCanHaveMoreRoom(t *testing.T) {
	for _, c := range manyCaches() {
		if !impl.ValidCache(impl.Cache{Room: impl.MaxRoom, Names: c.Names}) {
			t.Fatalf("ValidCache of %v with MaxRoom is false", c)
		}
	}
}

func TestP83UsedStatementsAreLast(t *testing.T) {
	hits, fresh, noRoom := 0, 0, 0
	for _, c := range manyCaches() {
		for name := 0; name < 10; name++ {
			out, there := impl.UseStatement(c, name)
			if there != hasNumber(c.Names, name) || !impl.ValidCache(out) || out.Room != c.Room {
				t.Fatalf("UseStatement of %v, %d = %v, %v", c, name, out, there)
			}
			switch {
			case c.Room == 0:
				noRoom++
				if len(out.Names) != 0 {
					t.Fatalf("UseStatement of %v, %d = %v", c, name, out)
				}
				continue
			case there:
				hits++
			default:
				fresh++
			}
			if len(out.Names) == 0 || out.Names[len(out.Names)-1] != name {
				t.Fatalf("UseStatement of %v, %d = %v", c, name, out)
			}
		}
	}
	if hits == 0 || fresh == 0 || noRoom == 0 {
		t.Errorf("%d names are there, %d are not, and %d times there is no room", hits, fresh, noRoom)
	}
}

func TestP84UsedTwiceStatementsAreThere(t *testing.T) {
	for _, c := range manyCaches() {
		for name := 0; name < 10; name++ {
			once, _ := impl.UseStatement(c, name)
			twice, there := impl.UseStatement(once, name)
			// Without room no statement is ever there.
			if there != (c.Room > 0) || !sameCache(twice, once) {
				t.Fatalf("UseStatement of %v, %d = %v, and again %v, %v", c, name, once, twice, there)
			}
		}
	}
}

func TestP85MoreRoomKeepsMore(t *testing.T) {
	more := 0
	for _, c := range manyCaches() {
		if c.Room == 6 {
			continue
		}
		for name := 0; name < 10; name++ {
			little, _ := impl.UseStatement(c, name)
			much, _ := impl.UseStatement(withMoreRoom(c), name)
			if much.Room != c.Room+1 || !isPart(little.Names, much.Names) {
				t.Fatalf("UseStatement of %v, %d = %v, and with more room %v", c, name, little, much)
			}
			if len(much.Names) > len(little.Names) {
				more++
			}
		}
	}
	if more == 0 {
		t.Error("more room never keeps more")
	}
}

func TestP86StatementsArePreparedIfTheyAreNotThere(t *testing.T) {
	prepared, there := 0, 0
	for _, c := range manyCaches() {
		for _, names := range manyUses() {
			count := impl.CountPrepares(c, names)
			if count < 0 || count > len(names) {
				t.Fatalf("CountPrepares of %v with %v = %d", c, names, count)
			}
			if len(names) == 0 {
				continue
			}
			used, hit := impl.UseStatement(c, names[0])
			rest := impl.CountPrepares(used, names[1:])
			if hit && count != rest || !hit && count != rest+1 {
				t.Fatalf("CountPrepares of %v with %v = %d, and without the first one %d", c, names, count, rest)
			}
			prepared += count
			there += len(names) - count
		}
	}
	if prepared == 0 || there == 0 {
		t.Errorf("%d statements are prepared, and %d are there", prepared, there)
	}
}

func TestP87MoreRoomPreparesNoMore(t *testing.T) {
	fewer := 0
	for _, c := range manyCaches() {
		if c.Room == 6 {
			continue
		}
		for _, names := range manyUses() {
			little, much := impl.CountPrepares(c, names), impl.CountPrepares(withMoreRoom(c), names)
			if much < 0 || much > little {
				t.Fatalf("CountPrepares of %v with %v = %d, and with more room %d", c, names, little, much)
			}
			if much < little {
				fewer++
			}
		}
	}
	if fewer == 0 {
		t.Error("more room never prepares fewer")
	}
}

func TestP88DroppedStatementsAreGone(t *testing.T) {
	dropped, notThere := 0, 0
	for _, c := range manyCaches() {
		for name := 0; name < 10; name++ {
			out, ok := impl.DropStatement(c, name)
			if ok != hasNumber(c.Names, name) {
				t.Fatalf("DropStatement of %v, %d = %v, %v", c, name, out, ok)
			}
			if !ok {
				notThere++
				checkUndropped(t, c, name)
				continue
			}
			dropped++
			if out.Room != c.Room || !sameNumbers(out.Names, withoutNumber(c.Names, name)) || !impl.ValidCache(out) {
				t.Fatalf("DropStatement of %v, %d = %v", c, name, out)
			}
			if _, there := impl.UseStatement(out, name); there || impl.CountPrepares(out, []int{name}) != 1 {
				t.Fatalf("UseStatement of %v, %d tells that it is there", out, name)
			}
		}
	}
	if dropped == 0 || notThere == 0 {
		t.Errorf("%d names are dropped, and %d are not there", dropped, notThere)
	}
}

func TestP89TheBestCacheHasMostNames(t *testing.T) {
	later, equal := 0, 0
	for _, list := range cacheLists() {
		for _, names := range differentNames() {
			best := impl.BestCache(list, names)
			if best < 0 || best >= len(list) {
				t.Fatalf("BestCache of %v with %v = %d", list, names, best)
			}
			for place, c := range list {
				has, most := commonOf(c, names), commonOf(list[best], names)
				if has > most || place < best && has == most {
					t.Fatalf("BestCache of %v with %v = %d, and %d has %d", list, names, best, place, has)
				}
				if place > best && has == most {
					equal++
				}
			}
			if best > 0 {
				later++
			}
		}
	}
	if later == 0 || equal == 0 {
		t.Errorf("%d times the first cache is not the best, and %d caches have as many", later, equal)
	}
}

func TestP90WithoutNamesTheFirstCacheIsTheBest(t *testing.T) {
	for _, list := range cacheLists() {
		if out := impl.BestCache(list, nil); out != 0 {
			t.Fatalf("BestCache of %v without names = %d", list, out)
		}
	}
	checkNoBest(t, nil, nil)
	checkNoBest(t, []impl.Cache{{Room: -1}}, nil)
	checkNoBest(t, []impl.Cache{{}, {Names: []int{1}}}, nil)
}

func TestP162UsedStatementsStayInOrder(t *testing.T) {
	lost, kept := 0, 0
	for _, c := range manyCaches() {
		for name := 0; name < 10; name++ {
			used, _ := impl.UseStatement(c, name)
			others := withoutNumber(c.Names, name)
			out := withoutNumber(used.Names, name)
			first := len(others) - len(out)
			if first < 0 || first > 1 || !sameNumbers(out, others[first:]) {
				t.Fatalf("UseStatement of %v, %d = %v", c, name, used)
			}
			// Only where there is no room for all the oldest one goes.
			if (first == 1) != (c.Room > 0 && len(others) == c.Room) {
				t.Fatalf("UseStatement of %v, %d = %v", c, name, used)
			}
			lost += first
			kept += len(out)
		}
	}
	if lost == 0 || kept == 0 {
		t.Errorf("%d names are lost, and %d are kept", lost, kept)
	}
}

func TestP163TheSameStatementIsPreparedOnce(t *testing.T) {
	for _, c := range manyCaches() {
		for name := 0; name < 10; name++ {
			var names []int
			for len(names) < 16 {
				names = append(names, name)
				want := 1
				if hasNumber(c.Names, name) {
					want = 0
				}
				// Without room it is prepared each time.
				if c.Room == 0 {
					want = len(names)
				}
				if out := impl.CountPrepares(c, names); out != want {
					t.Fatalf("CountPrepares of %v with %v = %d, not %d", c, names, out, want)
				}
			}
		}
	}
}

func TestP164DroppedAndUsedAgainStatementsAreLast(t *testing.T) {
	for _, c := range manyCaches() {
		for _, name := range c.Names {
			dropped, ok := impl.DropStatement(c, name)
			again, _ := impl.UseStatement(dropped, name)
			used, _ := impl.UseStatement(c, name)
			if !ok || !sameCache(again, used) || !sameCache(used, impl.Cache{Room: c.Room, Names: copyOf(withoutNumber(c.Names, name), name)}) {
				t.Fatalf("UseStatement of %v, %d = %v, and after DropStatement %v", c, name, used, again)
			}
		}
	}
}

func TestCachesShareNoMemory(t *testing.T) {
	// What lies behind each list is memory of the arguments, too.
	memory := []int{3, 1, 2, 9, 9}
	uses := []int{2, 4, 2, 9, 9}
	for room := 3; room <= 6; room++ {
		c := impl.Cache{Room: room, Names: memory[:3]}
		for name := 0; name < 10; name++ {
			used, _ := impl.UseStatement(c, name)
			spoilNumbers(used.Names)
			dropped, _ := impl.DropStatement(c, name)
			spoilNumbers(dropped.Names)
		}
		impl.ValidCache(c)
		impl.CountPrepares(c, uses[:3])
		impl.BestCache([]impl.Cache{c, c}, uses[:2])
		if !sameNumbers(memory, []int{3, 1, 2, 9, 9}) || !sameNumbers(uses, []int{2, 4, 2, 9, 9}) {
			t.Fatalf("the arguments become %v and %v", memory, uses)
		}
	}
	if again := impl.CountPrepares(impl.Cache{Room: 3, Names: memory[:3]}, uses[:3]); again != 1 {
		t.Errorf("CountPrepares the second time = %d", again)
	}
}

func TestCacheResultsStayWhenTheArgumentChanges(t *testing.T) {
	for _, c := range manyCaches() {
		before := impl.Cache{Room: c.Room, Names: copyOf(c.Names)}
		used, _ := impl.UseStatement(c, 4)
		dropped, ok := impl.DropStatement(c, 4)
		spoilNumbers(c.Names)
		if want, _ := usedByHand(before, 4); !sameCache(used, want) {
			t.Fatalf("UseStatement of %v becomes %v", before, used)
		}
		if ok && !sameNumbers(dropped.Names, withoutNumber(before.Names, 4)) {
			t.Fatalf("DropStatement of %v becomes %v", before, dropped)
		}
	}
}
