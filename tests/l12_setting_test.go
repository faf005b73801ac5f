package tests

import (
	"testing"

	"loop.example/connectionpool/impl"
)

// settingsOf returns the settings whose names are the bits of a mask, with values that a pattern tells.
func settingsOf(mask int, pattern int) []impl.Setting {
	var out []impl.Setting
	for name := 0; name < 10; name++ {
		if mask>>name&1 == 1 {
			out = append(out, impl.Setting{Name: name, Value: valueOf(name, pattern)})
		}
	}
	return out
}

// valueOf returns the value of a name that a pattern tells: always the same, at the ends of the limits, or mixed.
func valueOf(name int, pattern int) int {
	switch pattern {
	case 0:
		return 0
	case 1:
		return 20
	case 2:
		return name % 2 * 20
	}
	return (name*pattern + name/2) % 21
}

// someMasks returns names as bits: all sets of two names at each end, and some larger sets.
func someMasks() []int {
	var out []int
	for ends := 0; ends < 16; ends++ {
		out = append(out, ends&3|ends>>2<<8)
	}
	return append(out, 1023, 1022, 511, 341, 682, 31, 992, 204)
}

// manySettings returns valid settings, many of them with equal names or values.
func manySettings() [][]impl.Setting {
	var out [][]impl.Setting
	for _, mask := range someMasks() {
		for pattern := 0; pattern < 5; pattern++ {
			out = append(out, settingsOf(mask, pattern))
		}
	}
	return out
}

// fewSettings returns a part of manySettings, for tests that need triples of them.
func fewSettings() [][]impl.Setting {
	var out [][]impl.Setting
	for i, list := range manySettings() {
		if i%7 == 0 {
			out = append(out, list)
		}
	}
	return out
}

// wrongSettings returns settings that are not valid, each for one reason alone, where that can be.
func wrongSettings() [][]impl.Setting {
	var eleven []impl.Setting
	for name := 0; name <= 10; name++ {
		eleven = append(eleven, impl.Setting{Name: name})
	}
	out := [][]impl.Setting{
		{{Name: 2}, {Name: 1}},
		{{Name: 1}, {Name: 1}},
		{{Name: 0}, {Name: 0}},
		{{Name: 9}, {Name: 9}},
		{{Name: 1, Value: 3}, {Name: 1, Value: 4}},
		{{Name: 1}, {Name: 4}, {Name: 4}},
		{{Name: 1}, {Name: 4}, {Name: 3}, {Name: 5}},
		{{Name: 1}, {Name: 4}, {Name: 5}, {Name: 0}},
		{{Name: 9}, {Name: 0}},
		eleven,
		append(settingsOf(1023, 3), impl.Setting{Name: 9}),
		append(settingsOf(1023, 3), settingsOf(1023, 3)...),
		make([]impl.Setting, 100000),
	}
	for _, name := range oddNames() {
		x := impl.Setting{Name: name, Value: 3}
		out = append(out, []impl.Setting{x}, []impl.Setting{{Name: 2}, x}, []impl.Setting{x, {Name: 7}})
	}
	for _, value := range append(oddValues(), -1) {
		x := impl.Setting{Name: 4, Value: value}
		out = append(out, []impl.Setting{x}, []impl.Setting{{Name: 2}, x}, []impl.Setting{x, {Name: 7}}, []impl.Setting{{Name: 2}, x, {Name: 7}})
	}
	return out
}

// oddValues returns numbers that no change of a setting has as its value.
func oddValues() []int {
	return []int{minInt, minInt + 1, -3, -2, 21, 22, 1000, maxInt}
}

// someChanges returns single changes, of settings at the ends of the limits and between them.
func someChanges() []impl.Setting {
	var out []impl.Setting
	for _, name := range []int{0, 1, 4, 8, 9} {
		for _, value := range []int{-1, 0, 1, 7, 20} {
			out = append(out, impl.Setting{Name: name, Value: value})
		}
	}
	return out
}

// manyChanges returns lists of up to MaxUses changes, in which settings are changed several times, taken out and put in again.
func manyChanges() [][]impl.Setting {
	out := [][]impl.Setting{nil}
	some := someChanges()
	for i, x := range some {
		out = append(out, []impl.Setting{x}, []impl.Setting{x, x}, []impl.Setting{x, some[(i*7+3)%len(some)]})
	}
	for name := 0; name < 10; name++ {
		out = append(out, []impl.Setting{{Name: name, Value: -1}, {Name: name, Value: 5}}, []impl.Setting{{Name: name, Value: 5}, {Name: name, Value: -1}})
	}
	for step := 1; step <= 9; step++ {
		var list []impl.Setting
		for i := 0; i < 16; i++ {
			list = append(list, impl.Setting{Name: (i*step + i/3) % 10, Value: (i*(step+4)+step)%22 - 1})
		}
		out = append(out, list[:3], list[:9], list[:15], list)
	}
	return append(out, make([]impl.Setting, 16), takenOut(1023))
}

// takenOut returns the changes that take settings out, the greatest name first.
func takenOut(mask int) []impl.Setting {
	var out []impl.Setting
	for name := 9; name >= 0; name-- {
		if mask>>name&1 == 1 {
			out = append(out, impl.Setting{Name: name, Value: -1})
		}
	}
	return out
}

// wrongChanges returns lists of changes of which one can't be, or too many.
func wrongChanges() [][]impl.Setting {
	good := impl.Setting{Name: 4, Value: -1}
	fifteen := make([]impl.Setting, 15)
	out := [][]impl.Setting{make([]impl.Setting, 17), make([]impl.Setting, 100000), append(takenOut(1023), takenOut(127)...)}
	var wrong []impl.Setting
	for _, name := range oddNames() {
		wrong = append(wrong, impl.Setting{Name: name}, impl.Setting{Name: name, Value: -1}, impl.Setting{Name: name, Value: 20})
	}
	for _, value := range oddValues() {
		wrong = append(wrong, impl.Setting{Name: 0, Value: value}, impl.Setting{Name: 4, Value: value})
	}
	for _, x := range wrong {
		out = append(out, []impl.Setting{x}, []impl.Setting{x, good}, []impl.Setting{good, x}, []impl.Setting{good, x, good}, append(copyOfSettings(fifteen), x))
	}
	return out
}

// copyOfSettings returns a copy of settings.
func copyOfSettings(list []impl.Setting) []impl.Setting {
	return append([]impl.Setting{}, list...)
}

// sameSettings reports whether two lists have the same settings in the same order.
func sameSettings(a []impl.Setting, b []impl.Setting) bool {
	if len(a) != len(b) {
		return false
	}
	for i := range a {
		if a[i] != b[i] {
			return false
		}
	}
	return true
}

// withoutSetting returns a list without the setting at a place.
func withoutSetting(list []impl.Setting, place int) []impl.Setting {
	return append(copyOfSettings(list[:place]), list[place+1:]...)
}

// valuesOf returns the value of each name, -1 for those that are not there.
func valuesOf(list []impl.Setting) [10]int {
	out := [10]int{-1, -1, -1, -1, -1, -1, -1, -1, -1, -1}
	for _, x := range list {
		out[x.Name] = x.Value
	}
	return out
}

// settingsWith returns the settings with values, in which -1 stands for none.
func settingsWith(values [10]int) []impl.Setting {
	var out []impl.Setting
	for name, value := range values {
		if value != -1 {
			out = append(out, impl.Setting{Name: name, Value: value})
		}
	}
	return out
}

// appliedByHand returns settings after changes, with a value for each name.
func appliedByHand(list []impl.Setting, changes []impl.Setting) []impl.Setting {
	values := valuesOf(list)
	for _, x := range changes {
		values[x.Name] = x.Value
	}
	return settingsWith(values)
}

// planByHand returns a change for each name whose values differ.
func planByHand(now []impl.Setting, want []impl.Setting) []impl.Setting {
	var out []impl.Setting
	before, after := valuesOf(now), valuesOf(want)
	for name := range after {
		if before[name] != after[name] {
			out = append(out, impl.Setting{Name: name, Value: after[name]})
		}
	}
	return out
}

// cheapestByHand returns the place of the first list that can be changed by no change, or by one, and so on.
func cheapestByHand(lists [][]impl.Setting, want []impl.Setting) int {
	for many := 0; many <= 10; many++ {
		for place, list := range lists {
			if len(planByHand(list, want)) == many {
				return place
			}
		}
	}
	return -1
}

// listsOfSettings returns one to MaxConn lists of valid settings.
func listsOfSettings() [][][]impl.Setting {
	all := manySettings()
	var out [][][]impl.Setting
	for many := 1; many <= 6; many++ {
		for pattern := 0; pattern < 20; pattern++ {
			var lists [][]impl.Setting
			for i := 0; i < many; i++ {
				lists = append(lists, all[(pattern*13+i*(pattern*5+3))%len(all)])
			}
			out = append(out, lists)
		}
	}
	return out
}

func TestSettingConstants(t *testing.T) {
	if impl.MaxValue != 20 || impl.MaxName != 9 || impl.MaxUses != 16 || impl.MaxConn != 6 {
		t.Error("MaxValue, MaxName, MaxUses or MaxConn")
	}
}

func TestValidSettings(t *testing.T) {
	for _, list := range manySettings() {
		if !impl.ValidSettings(list) {
			t.Fatalf("ValidSettings of %v is false", list)
		}
	}
	for i, list := range wrongSettings() {
		if impl.ValidSettings(list) {
			t.Errorf("ValidSettings of %d settings, the wrong list %d, is true", len(list), i)
		}
	}
}

func TestValidSettingsNumberByNumber(t *testing.T) {
	for name := -2; name <= 11; name++ {
		for value := -2; value <= 22; value++ {
			x := impl.Setting{Name: name, Value: value}
			want := name >= 0 && name <= 9 && value >= 0 && value <= 20
			if impl.ValidSettings([]impl.Setting{x}) != want {
				t.Fatalf("ValidSettings of %v is not %v", x, want)
			}
			if impl.ValidSettings([]impl.Setting{{Name: 3}, x}) != (want && name > 3) {
				t.Fatalf("ValidSettings of 3 and %v is not %v", x, want && name > 3)
			}
			if impl.ValidSettings([]impl.Setting{x, {Name: 6}}) != (want && name < 6) {
				t.Fatalf("ValidSettings of %v and 6 is not %v", x, want && name < 6)
			}
		}
	}
}

func TestWrongSettingsHaveFixedResults(t *testing.T) {
	good := settingsOf(341, 3)
	for _, list := range wrongSettings() {
		for _, changes := range [][]impl.Setting{nil, good, takenOut(1023), {{Name: 4, Value: 3}}, {{Name: -1}}} {
			checkUnapplied(t, list, changes)
		}
		for _, other := range [][]impl.Setting{nil, good, list} {
			checkNoPlan(t, list, other)
			checkNoPlan(t, other, list)
		}
		for _, lists := range [][][]impl.Setting{{good}, {nil}, {list}, {good, good}} {
			checkNoCheapest(t, lists, list)
		}
		for _, lists := range [][][]impl.Setting{{list}, {list, good}, {good, list}, {good, list, good}, {nil, good, nil, nil, good, list}} {
			checkNoCheapest(t, lists, good)
			checkNoCheapest(t, lists, nil)
		}
	}
}

func TestWrongChangesHaveFixedResults(t *testing.T) {
	for _, list := range manySettings() {
		for _, changes := range wrongChanges() {
			checkUnapplied(t, list, changes)
		}
	}
}

// checkUnapplied checks what ApplySettings returns for arguments that are not valid.
func checkUnapplied(t *testing.T, list []impl.Setting, changes []impl.Setting) {
	if out, ok := impl.ApplySettings(list, changes); ok || len(out) != 0 {
		t.Fatalf("ApplySettings of %d settings with %d changes = %v, %v", len(list), len(changes), out, ok)
	}
}

// checkNoPlan checks what ResetPlan returns for settings that are not valid.
func checkNoPlan(t *testing.T, now []impl.Setting, want []impl.Setting) {
	if out := impl.ResetPlan(now, want); len(out) != 0 {
		t.Fatalf("ResetPlan of %d settings to %d settings = %v", len(now), len(want), out)
	}
}

// checkNoCheapest checks what CheapestReset returns for arguments that are not valid.
func checkNoCheapest(t *testing.T, lists [][]impl.Setting, want []impl.Setting) {
	if out := impl.CheapestReset(lists, want); out != -1 {
		t.Fatalf("CheapestReset of %d lists to %d settings = %d", len(lists), len(want), out)
	}
}

func TestApplySettingsByHand(t *testing.T) {
	now := []impl.Setting{{Name: 1, Value: 5}, {Name: 4, Value: 7}, {Name: 6, Value: 0}}
	for _, x := range []struct {
		changes []impl.Setting
		want    []impl.Setting
	}{
		{nil, now},
		// Settings that are there, in order and not.
		{[]impl.Setting{{Name: 4, Value: 8}}, []impl.Setting{{Name: 1, Value: 5}, {Name: 4, Value: 8}, {Name: 6, Value: 0}}},
		{[]impl.Setting{{Name: 6, Value: 20}, {Name: 1, Value: 0}}, []impl.Setting{{Name: 1, Value: 0}, {Name: 4, Value: 7}, {Name: 6, Value: 20}}},
		{[]impl.Setting{{Name: 4, Value: 7}}, now},
		// New settings, before all others, between them and behind them.
		{[]impl.Setting{{Name: 0, Value: 0}}, []impl.Setting{{Name: 0, Value: 0}, {Name: 1, Value: 5}, {Name: 4, Value: 7}, {Name: 6, Value: 0}}},
		{[]impl.Setting{{Name: 5, Value: 1}}, []impl.Setting{{Name: 1, Value: 5}, {Name: 4, Value: 7}, {Name: 5, Value: 1}, {Name: 6, Value: 0}}},
		{[]impl.Setting{{Name: 9, Value: 1}}, []impl.Setting{{Name: 1, Value: 5}, {Name: 4, Value: 7}, {Name: 6, Value: 0}, {Name: 9, Value: 1}}},
		// Settings that are taken out, and such that are not there.
		{[]impl.Setting{{Name: 1, Value: -1}}, []impl.Setting{{Name: 4, Value: 7}, {Name: 6, Value: 0}}},
		{[]impl.Setting{{Name: 4, Value: -1}}, []impl.Setting{{Name: 1, Value: 5}, {Name: 6, Value: 0}}},
		{[]impl.Setting{{Name: 6, Value: -1}}, []impl.Setting{{Name: 1, Value: 5}, {Name: 4, Value: 7}}},
		{[]impl.Setting{{Name: 5, Value: -1}}, now},
		{[]impl.Setting{{Name: 0, Value: -1}, {Name: 9, Value: -1}}, now},
		{[]impl.Setting{{Name: 4, Value: -1}, {Name: 4, Value: -1}}, []impl.Setting{{Name: 1, Value: 5}, {Name: 6, Value: 0}}},
		{takenOut(1023), nil},
		// The same setting several times.
		{[]impl.Setting{{Name: 4, Value: -1}, {Name: 4, Value: 2}}, []impl.Setting{{Name: 1, Value: 5}, {Name: 4, Value: 2}, {Name: 6, Value: 0}}},
		{[]impl.Setting{{Name: 0, Value: 3}, {Name: 0, Value: -1}}, now},
		{[]impl.Setting{{Name: 0, Value: 3}, {Name: 1, Value: 9}, {Name: 0, Value: 4}}, []impl.Setting{{Name: 0, Value: 4}, {Name: 1, Value: 9}, {Name: 4, Value: 7}, {Name: 6, Value: 0}}},
	} {
		if out, ok := impl.ApplySettings(now, x.changes); !ok || !sameSettings(out, x.want) {
			t.Errorf("ApplySettings of %v with %v = %v, %v, not %v", now, x.changes, out, ok, x.want)
		}
	}
	if out, ok := impl.ApplySettings(nil, settingsOf(1023, 3)); !ok || !sameSettings(out, settingsOf(1023, 3)) {
		t.Errorf("ApplySettings of none with all = %v, %v", out, ok)
	}
}

func TestResetPlanByHand(t *testing.T) {
	now := []impl.Setting{{Name: 1, Value: 5}, {Name: 4, Value: 7}, {Name: 6, Value: 0}}
	for _, x := range []struct {
		want []impl.Setting
		plan []impl.Setting
	}{
		{now, nil},
		{nil, []impl.Setting{{Name: 1, Value: -1}, {Name: 4, Value: -1}, {Name: 6, Value: -1}}},
		{[]impl.Setting{{Name: 1, Value: 5}, {Name: 4, Value: 8}, {Name: 9, Value: 2}}, []impl.Setting{{Name: 4, Value: 8}, {Name: 6, Value: -1}, {Name: 9, Value: 2}}},
		// A setting of 0 is not one that is not there.
		{[]impl.Setting{{Name: 1, Value: 5}, {Name: 4, Value: 7}}, []impl.Setting{{Name: 6, Value: -1}}},
		{[]impl.Setting{{Name: 0, Value: 0}, {Name: 1, Value: 5}, {Name: 4, Value: 7}, {Name: 6, Value: 0}}, []impl.Setting{{Name: 0, Value: 0}}},
		// No names in common, in turns, and one list before the other one.
		{[]impl.Setting{{Name: 0, Value: 1}, {Name: 3, Value: 2}, {Name: 5, Value: 3}, {Name: 9, Value: 4}}, []impl.Setting{{Name: 0, Value: 1}, {Name: 1, Value: -1}, {Name: 3, Value: 2}, {Name: 4, Value: -1}, {Name: 5, Value: 3}, {Name: 6, Value: -1}, {Name: 9, Value: 4}}},
		{[]impl.Setting{{Name: 7, Value: 5}, {Name: 8, Value: 7}, {Name: 9, Value: 0}}, []impl.Setting{{Name: 1, Value: -1}, {Name: 4, Value: -1}, {Name: 6, Value: -1}, {Name: 7, Value: 5}, {Name: 8, Value: 7}, {Name: 9, Value: 0}}},
		{[]impl.Setting{{Name: 0, Value: 5}}, []impl.Setting{{Name: 0, Value: 5}, {Name: 1, Value: -1}, {Name: 4, Value: -1}, {Name: 6, Value: -1}}},
		// The same names with other values.
		{[]impl.Setting{{Name: 1, Value: 7}, {Name: 4, Value: 0}, {Name: 6, Value: 5}}, []impl.Setting{{Name: 1, Value: 7}, {Name: 4, Value: 0}, {Name: 6, Value: 5}}},
	} {
		if out := impl.ResetPlan(now, x.want); !sameSettings(out, x.plan) {
			t.Errorf("ResetPlan of %v to %v = %v, not %v", now, x.want, out, x.plan)
		}
	}
	all := settingsOf(1023, 3)
	if out := impl.ResetPlan(nil, all); !sameSettings(out, all) {
		t.Errorf("ResetPlan of none to all = %v", out)
	}
	if out := impl.ResetPlan(all, nil); len(out) != 10 || out[0] != (impl.Setting{Value: -1}) || out[9] != (impl.Setting{Name: 9, Value: -1}) {
		t.Errorf("ResetPlan of all to none = %v", out)
	}
	if out := impl.ResetPlan(nil, nil); len(out) != 0 {
		t.Errorf("ResetPlan of none to none = %v", out)
	}
}

func TestCheapestResetByHand(t *testing.T) {
	now := []impl.Setting{{Name: 1, Value: 5}, {Name: 4, Value: 7}, {Name: 6, Value: 0}}
	want := []impl.Setting{{Name: 1, Value: 5}, {Name: 4, Value: 8}, {Name: 9, Value: 2}}
	near := []impl.Setting{{Name: 1, Value: 5}, {Name: 4, Value: 8}, {Name: 9, Value: 3}}
	less := []impl.Setting{{Name: 1, Value: 5}, {Name: 4, Value: 8}}
	more := []impl.Setting{{Name: 1, Value: 5}, {Name: 4, Value: 8}, {Name: 8, Value: 0}, {Name: 9, Value: 2}}
	for _, x := range []struct {
		lists [][]impl.Setting
		want  int
	}{
		{[][]impl.Setting{now, nil, want, want}, 2},
		// Of several the first one.
		{[][]impl.Setting{now, nil}, 0},
		{[][]impl.Setting{nil, now}, 0},
		{[][]impl.Setting{now, near, less, more}, 1},
		{[][]impl.Setting{now, more, less, near}, 1},
		{[][]impl.Setting{nil, now, less, more, near}, 2},
		{[][]impl.Setting{want, want}, 0},
		{[][]impl.Setting{near, want}, 1},
		// As many lists as can be, and one more.
		{[][]impl.Setting{now, nil, now, nil, now, near}, 5},
		{[][]impl.Setting{now, nil, now, nil, now, nil}, 0},
		{[][]impl.Setting{want, want, want, want, want, want, want}, -1},
		{make([][]impl.Setting, 100000), -1},
		{nil, -1},
	} {
		if out := impl.CheapestReset(x.lists, want); out != x.want {
			t.Errorf("CheapestReset of %d lists = %d, not %d", len(x.lists), out, x.want)
		}
	}
	if impl.CheapestReset([][]impl.Setting{want, less, nil}, nil) != 2 || impl.CheapestReset(nil, nil) != -1 {
		t.Error("CheapestReset to no settings")
	}
}

func TestSettingsStepByStep(t *testing.T) {
	all := manySettings()
	for _, list := range all {
		for _, changes := range manyChanges() {
			out, ok := impl.ApplySettings(list, changes)
			if !ok || !sameSettings(out, appliedByHand(list, changes)) {
				t.Fatalf("ApplySettings of %v with %v = %v, %v", list, changes, out, ok)
			}
		}
		for _, want := range all {
			if out := impl.ResetPlan(list, want); !sameSettings(out, planByHand(list, want)) {
				t.Fatalf("ResetPlan of %v to %v = %v, not %v", list, want, out, planByHand(list, want))
			}
		}
	}
	for _, lists := range listsOfSettings() {
		for _, want := range all {
			if out := impl.CheapestReset(lists, want); out != cheapestByHand(lists, want) {
				t.Fatalf("CheapestReset of %v to %v = %d, not %d", lists, want, out, cheapestByHand(lists, want))
			}
		}
	}
}

func TestP91SettingsCanBeLeftOut(t *testing.T) {
	for _, list := range manySettings() {
		for place := range list {
			if !impl.ValidSettings(withoutSetting(list, place)) {
				t.Fatalf("ValidSettings of %v without the setting %d is false", list, place)
			}
		}
	}
}

func TestP92TheLastChangeCounts(t *testing.T) {
	takes, sets := 0, 0
	for _, list := range manySettings() {
		for _, changes := range manyChanges() {
			if len(changes) == 0 {
				continue
			}
			last := changes[len(changes)-1]
			out, ok := impl.ApplySettings(list, changes)
			if !ok || !impl.ValidSettings(out) {
				t.Fatalf("ApplySettings of %v with %v = %v, %v", list, changes, out, ok)
			}
			if valuesOf(out)[last.Name] != last.Value {
				t.Fatalf("ApplySettings of %v with %v = %v", list, changes, out)
			}
			if last.Value == -1 {
				takes++
			} else {
				sets++
			}
		}
	}
	if takes == 0 || sets == 0 {
		t.Errorf("%d last changes take a setting out, and %d do not", takes, sets)
	}
}

func TestP93ChangesGoOneByOne(t *testing.T) {
	for _, list := range manySettings() {
		for _, changes := range manyChanges() {
			all, ok := impl.ApplySettings(list, changes)
			if !ok {
				t.Fatalf("ApplySettings of %v with %v fails", list, changes)
			}
			for first := 0; first <= len(changes); first++ {
				some, began := impl.ApplySettings(list, changes[:first])
				rest, ended := impl.ApplySettings(some, changes[first:])
				if !began || !ended || !sameSettings(rest, all) {
					t.Fatalf("ApplySettings of %v with %v = %v, and in two parts, the first one of %d, %v", list, changes, all, first, rest)
				}
			}
		}
	}
}

func TestP94OtherSettingsStay(t *testing.T) {
	stay := 0
	for _, list := range manySettings() {
		for _, changes := range manyChanges() {
			var named [10]bool
			for _, x := range changes {
				named[x.Name] = true
			}
			out, _ := impl.ApplySettings(list, changes)
			before, after := valuesOf(list), valuesOf(out)
			for name := range named {
				if named[name] {
					continue
				}
				if after[name] != before[name] {
					t.Fatalf("ApplySettings of %v with %v = %v", list, changes, out)
				}
				if before[name] != -1 {
					stay++
				}
			}
		}
	}
	if stay == 0 {
		t.Error("no setting stays")
	}
}

func TestP95PlansReachWhatIsWanted(t *testing.T) {
	for _, now := range manySettings() {
		for _, want := range manySettings() {
			plan := impl.ResetPlan(now, want)
			for i, x := range plan {
				if i > 0 && x.Name <= plan[i-1].Name {
					t.Fatalf("ResetPlan of %v to %v = %v", now, want, plan)
				}
			}
			if out, ok := impl.ApplySettings(now, plan); !ok || !sameSettings(out, want) {
				t.Fatalf("ResetPlan of %v to %v = %v, which makes %v", now, want, plan, out)
			}
		}
	}
}

func TestP96EqualSettingsNeedNoPlan(t *testing.T) {
	equal, differ := 0, 0
	for _, now := range manySettings() {
		for _, want := range manySettings() {
			there, back := impl.ResetPlan(now, want), impl.ResetPlan(want, now)
			if (len(there) == 0) != sameSettings(now, want) || len(there) != len(back) {
				t.Fatalf("ResetPlan of %v to %v = %v, and back %v", now, want, there, back)
			}
			if len(there) == 0 {
				equal++
			} else {
				differ++
			}
		}
	}
	if equal == 0 || differ == 0 {
		t.Errorf("%d settings are equal, and %d are not", equal, differ)
	}
}

func TestP97NoChangeCanBeLeftOut(t *testing.T) {
	left := 0
	for _, now := range manySettings() {
		for _, want := range manySettings() {
			plan := impl.ResetPlan(now, want)
			for place := range plan {
				out, ok := impl.ApplySettings(now, withoutSetting(plan, place))
				if !ok || sameSettings(out, want) {
					t.Fatalf("ResetPlan of %v to %v = %v, and without the change %d it makes %v", now, want, plan, place, out)
				}
				left++
			}
		}
	}
	if left == 0 {
		t.Error("all plans are empty")
	}
}

func TestP98TheCheapestResetIsShort(t *testing.T) {
	later, equal := 0, 0
	for _, lists := range listsOfSettings() {
		for _, want := range manySettings() {
			best := impl.CheapestReset(lists, want)
			if best < 0 || best >= len(lists) {
				t.Fatalf("CheapestReset of %v to %v = %d", lists, want, best)
			}
			fewest := len(impl.ResetPlan(lists[best], want))
			for place, list := range lists {
				many := len(impl.ResetPlan(list, want))
				if many < fewest || place < best && many == fewest {
					t.Fatalf("CheapestReset of %v to %v = %d, and that of %d has %d changes", lists, want, best, place, many)
				}
				if place > best && many == fewest {
					equal++
				}
			}
			if best > 0 {
				later++
			}
		}
	}
	if later == 0 || equal == 0 {
		t.Errorf("%d times the first list is not the cheapest, and %d lists are as cheap", later, equal)
	}
}

func TestP165NoChangesChangeNothing(t *testing.T) {
	for _, list := range manySettings() {
		for _, changes := range [][]impl.Setting{nil, {}} {
			if out, ok := impl.ApplySettings(list, changes); !ok || !sameSettings(out, list) {
				t.Fatalf("ApplySettings of %v without changes = %v, %v", list, out, ok)
			}
		}
	}
}

func TestP166OneListIsTheCheapestOfOne(t *testing.T) {
	few := fewSettings()
	for _, list := range few {
		for _, want := range few {
			if out := impl.CheapestReset([][]impl.Setting{list}, want); out != 0 {
				t.Fatalf("CheapestReset of %v to %v = %d", list, want, out)
			}
			for _, other := range few {
				if out := impl.CheapestReset([][]impl.Setting{want, list, other, want}, want); out != 0 {
					t.Fatalf("CheapestReset of %v, first, to itself = %d", want, out)
				}
			}
		}
	}
}

// spoilSettings overwrites all settings of a list, and appends to it.
func spoilSettings(list []impl.Setting) {
	for i := range list {
		list[i] = impl.Setting{Name: -77, Value: -77}
	}
	_ = append(list, impl.Setting{Name: -77, Value: -77})
}

func TestSettingsShareNoMemory(t *testing.T) {
	// What lies behind each list is memory of the arguments, too.
	memory := [5]impl.Setting{{Name: 1, Value: 5}, {Name: 4, Value: 7}, {Name: 6}, {Name: 8}, {Name: 9}}
	more := [5]impl.Setting{{Name: 1, Value: 5}, {Name: 4, Value: 8}, {Name: 7}, {Name: 8}, {Name: 9}}
	given, givenMore := memory, more
	now, want := memory[:3], more[:3]
	for _, changes := range [][]impl.Setting{nil, now, want, {{Name: 4, Value: -1}}, {{Name: 9, Value: 3}}} {
		out, ok := impl.ApplySettings(now, changes)
		if !ok {
			t.Fatalf("ApplySettings of %v with %v fails", now, changes)
		}
		spoilSettings(out)
	}
	for _, list := range [][]impl.Setting{nil, now, want} {
		spoilSettings(impl.ResetPlan(now, list))
		spoilSettings(impl.ResetPlan(list, now))
		impl.CheapestReset([][]impl.Setting{list, now, list}, want)
	}
	impl.ValidSettings(now)
	if memory != given || more != givenMore {
		t.Errorf("the arguments become %v and %v", memory, more)
	}
	if again := impl.ResetPlan(now, want); !sameSettings(again, []impl.Setting{{Name: 4, Value: 8}, {Name: 6, Value: -1}, {Name: 7}}) {
		t.Errorf("ResetPlan the second time = %v", again)
	}
}

func TestSettingResultsStayWhenTheArgumentChanges(t *testing.T) {
	for _, now := range fewSettings() {
		for _, want := range fewSettings() {
			list, other := copyOfSettings(now), copyOfSettings(want)
			same, _ := impl.ApplySettings(list, nil)
			out, _ := impl.ApplySettings(list, other)
			plan := impl.ResetPlan(list, other)
			spoilSettings(list)
			spoilSettings(other)
			if !sameSettings(same, now) || !sameSettings(out, appliedByHand(now, want)) || !sameSettings(plan, planByHand(now, want)) {
				t.Fatalf("results of %v and %v become %v, %v and %v", now, want, same, out, plan)
			}
		}
	}
}
