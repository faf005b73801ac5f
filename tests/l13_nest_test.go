package tests

import (
	"testing"

	"loop.example/connectionpool/impl"
)

// nestStack tells a state in another way: the work of each open transaction by itself, the outermost one first.
type nestStack struct {
	parts  []int
	broken bool
}

// nestOf returns the state that a stack tells.
func nestOf(s nestStack) impl.Nest {
	out := impl.Nest{Depth: len(s.parts), Broken: s.broken}
	for _, part := range s.parts {
		out.Marks = append(out.Marks, out.Work)
		out.Work += part
	}
	return out
}

// partLists returns all lists of so many numbers, none of them negative, whose sum is at most a number.
func partLists(many int, most int) [][]int {
	if many == 0 {
		return [][]int{nil}
	}
	var out [][]int
	for last := 0; last <= most; last++ {
		for _, list := range partLists(many-1, most-last) {
			out = append(out, copyOf(list, last))
		}
	}
	return out
}

// allStacks returns the stacks of all valid states.
func allStacks() []nestStack {
	out := []nestStack{{}}
	for depth := 1; depth <= 4; depth++ {
		for _, parts := range partLists(depth, 12) {
			out = append(out, nestStack{parts: parts}, nestStack{parts: parts, broken: true})
		}
	}
	return out
}

// allNests returns all valid states.
func allNests() []impl.Nest {
	var out []impl.Nest
	for _, s := range allStacks() {
		out = append(out, nestOf(s))
	}
	return out
}

// wrongNests returns states that are not valid, each for one reason alone, where that can be.
func wrongNests() []impl.Nest {
	out := []impl.Nest{
		{Depth: -1},
		{Depth: minInt},
		{Depth: maxInt},
		{Depth: -1, Work: 1, Marks: []int{0}},
		{Depth: 5, Marks: make([]int, 5)},
		{Depth: 5, Work: 12, Marks: []int{0, 1, 2, 3, 4}},
		{Depth: 5, Work: 12, Marks: []int{0, 1, 2, 3, 4}, Broken: true},
		{Depth: 100000, Marks: make([]int, 100000)},
		// Marks are as many as Depth.
		{Marks: []int{0}},
		{Marks: make([]int, 100000)},
		{Depth: 1},
		{Depth: 1, Work: 3, Broken: true},
		{Depth: 1, Marks: []int{0, 0}},
		{Depth: 2, Work: 3, Marks: []int{0}},
		{Depth: 4, Work: 3, Marks: []int{0, 0, 0}},
		{Depth: 4, Work: 3, Marks: make([]int, 5)},
		{Depth: 4, Work: 3, Marks: make([]int, 100000)},
		// Without transactions there is no work, and nothing can be Broken.
		{Work: 1},
		{Work: 12},
		{Work: -1},
		{Work: minInt},
		{Work: maxInt},
		{Broken: true},
		{Work: 1, Broken: true},
		// The first mark is 0, and no mark falls, or is more than Work.
		{Depth: 1, Work: 1, Marks: []int{1}},
		{Depth: 1, Work: 12, Marks: []int{12}},
		{Depth: 1, Work: 3, Marks: []int{-1}},
		{Depth: 1, Marks: []int{minInt}},
		{Depth: 2, Work: 3, Marks: []int{1, 1}},
		{Depth: 2, Work: 3, Marks: []int{-1, 1}},
		{Depth: 2, Work: 3, Marks: []int{0, -1}},
		{Depth: 2, Work: 3, Marks: []int{0, minInt}},
		{Depth: 2, Work: 3, Marks: []int{0, 4}},
		{Depth: 2, Work: 12, Marks: []int{0, 13}},
		{Depth: 2, Work: 12, Marks: []int{0, maxInt}},
		{Depth: 3, Work: 5, Marks: []int{0, 3, 2}},
		{Depth: 3, Work: 5, Marks: []int{0, 6, 5}},
		{Depth: 3, Work: 5, Marks: []int{0, 5, 6}},
		{Depth: 4, Work: 5, Marks: []int{0, 2, 1, 3}, Broken: true},
		{Depth: 4, Work: 5, Marks: []int{0, 1, 3, 2}},
		{Depth: 4, Work: 5, Marks: []int{2, 3, 4, 5}},
	}
	for _, work := range []int{minInt, minInt + 1, -1, 13, 14, 1000, maxInt} {
		out = append(out, impl.Nest{Depth: 1, Work: work, Marks: []int{0}})
		out = append(out, impl.Nest{Depth: 4, Work: work, Marks: []int{0, 0, 0, 0}, Broken: true})
	}
	return out
}

// validNestByHand reports whether a state is valid: whether it has a stack, in which no part is negative.
func validNestByHand(n impl.Nest) bool {
	if n.Depth != len(n.Marks) || n.Depth > 4 || n.Work > 12 {
		return false
	}
	if n.Depth == 0 {
		return n.Work == 0 && !n.Broken
	}
	sums := copyOf(n.Marks, n.Work)
	for i := 1; i < len(sums); i++ {
		if sums[i]-sums[i-1] < 0 {
			return false
		}
	}
	return sums[0] == 0
}

// oddKinds returns numbers that are no commands.
func oddKinds() []int {
	return []int{minInt, minInt + 1, -2, -1, 5, 6, 9, 1000, maxInt}
}

// allKinds returns all commands, and numbers that are none.
func allKinds() []int {
	return append(oddKinds(), 0, 1, 2, 3, 4)
}

// sameNest reports whether two states are the same.
func sameNest(a impl.Nest, b impl.Nest) bool {
	return a.Depth == b.Depth && a.Work == b.Work && a.Broken == b.Broken && sameNumbers(a.Marks, b.Marks)
}

// pushed returns a stack with a further transaction that has so much work.
func pushed(s nestStack, work int) nestStack {
	return nestStack{parts: copyOf(s.parts, work), broken: s.broken}
}

// popped returns a stack without its innermost transaction, and the work of this one.
func popped(s nestStack) (nestStack, int) {
	last := len(s.parts) - 1
	return nestStack{parts: copyOf(s.parts[:last])}, s.parts[last]
}

// steppedByHand returns a stack after a command, how much work is kept for good by it, and whether it is possible.
func steppedByHand(s nestStack, kind int) (nestStack, int, bool) {
	if kind == impl.StepOpen {
		return pushed(s, 0), 0, !s.broken && len(s.parts) < 4
	}
	if len(s.parts) == 0 || s.broken && kind != impl.StepFail && kind != impl.StepBack {
		return s, 0, false
	}
	below, top := popped(s)
	switch kind {
	case impl.StepWork:
		return pushed(below, top+1), 0, sumByHand(s.parts) < 12
	case impl.StepFail:
		return nestStack{parts: s.parts, broken: true}, 0, true
	case impl.StepBack:
		return below, 0, true
	case impl.StepKeep:
		if len(below.parts) == 0 {
			return below, top, true
		}
		// What is kept inside is work of the transaction outside.
		lower, under := popped(below)
		return pushed(lower, under+top), 0, true
	}
	return s, 0, false
}

// ranByHand returns the stack after commands, how many were not possible, and how much work was kept.
func ranByHand(kinds []int) (nestStack, int, int) {
	s, bad, kept := nestStack{}, 0, 0
	for _, kind := range kinds {
		next, more, ok := steppedByHand(s, kind)
		if !ok {
			bad++
			continue
		}
		s = next
		kept += more
	}
	return s, bad, kept
}

// repeated returns a list of the same number several times.
func repeated(number int, many int) []int {
	var out []int
	for len(out) < many {
		out = append(out, number)
	}
	return out
}

// joined returns one list of several ones.
func joined(lists ...[]int) []int {
	var out []int
	for _, list := range lists {
		out = append(out, list...)
	}
	return out
}

// shortKinds returns all lists of at most so many of some commands.
func shortKinds(some []int, most int) [][]int {
	out := [][]int{nil}
	begin := 0
	for many := 1; many <= most; many++ {
		end := len(out)
		for _, list := range out[begin:end] {
			for _, kind := range some {
				out = append(out, copyOf(list, kind))
			}
		}
		begin = end
	}
	return out
}

// mixedKinds returns a list of MaxUses commands, of which more open transactions and do work than not.
func mixedKinds(pattern int) []int {
	some := []int{0, 1, 1, 3, 0, 1, 4, 1, 2, 1, 0, 3, 1, 4, 5}
	out := []int{0}
	number := pattern*7919 + 17
	for len(out) < 16 {
		number = (number*1103 + 12345) % 104729
		// The patterns differ in how often something fails.
		out = append(out, some[number/7%(len(some)-pattern%7)])
	}
	return out
}

// longKinds returns long lists of commands, with much work and many transactions.
func longKinds() [][]int {
	var out [][]int
	for pattern := 0; pattern < 300; pattern++ {
		out = append(out, mixedKinds(pattern))
	}
	for work := 0; work <= 14; work++ {
		out = append(out, joined([]int{0}, repeated(1, work), []int{3}))
		out = append(out, joined([]int{0}, repeated(1, work), []int{4}))
		out = append(out, joined([]int{0}, repeated(1, work/2), []int{0}, repeated(1, work/4), []int{3, 3, 0, 1}))
	}
	for kind := 0; kind < 5; kind++ {
		out = append(out, repeated(kind, 16))
	}
	return append(out, []int{0, 0, 0, 0, 0, 1, 3, 1, 3, 1, 3, 1, 3, 3, 4, 0})
}

// manyKinds returns lists of up to MaxUses commands: all short ones, and some long ones.
func manyKinds() [][]int {
	out := shortKinds([]int{0, 1, 2, 3, 4}, 5)
	out = append(out, shortKinds([]int{0, 1, 3, 4, 5, -1}, 4)...)
	return append(out, longKinds()...)
}

// wrongKinds returns lists of too many commands.
func wrongKinds() [][]int {
	return [][]int{make([]int, 17), repeated(9, 17), joined([]int{0}, repeated(1, 15), []int{3}), make([]int, 100000)}
}

func TestNestConstants(t *testing.T) {
	if impl.MaxDepth != 4 || impl.MaxWork != 12 || impl.MaxUses != 16 {
		t.Error("MaxDepth, MaxWork or MaxUses")
	}
	if impl.StepOpen != 0 || impl.StepWork != 1 || impl.StepFail != 2 || impl.StepKeep != 3 || impl.StepBack != 4 {
		t.Error("StepOpen, StepWork, StepFail, StepKeep or StepBack")
	}
}

func TestValidNest(t *testing.T) {
	for _, n := range allNests() {
		if !impl.ValidNest(n) {
			t.Fatalf("ValidNest of %v is false", n)
		}
	}
	for i, n := range wrongNests() {
		if impl.ValidNest(n) {
			t.Errorf("ValidNest of the wrong state %d, with %d marks, is true", i, len(n.Marks))
		}
	}
}

func TestValidNestNumberByNumber(t *testing.T) {
	for _, marks := range shortKinds([]int{-1, 0, 1, 2, 12, 13}, 3) {
		for depth := -1; depth <= 5; depth++ {
			for work := -1; work <= 13; work++ {
				for _, broken := range []bool{false, true} {
					n := impl.Nest{Depth: depth, Work: work, Marks: marks, Broken: broken}
					if impl.ValidNest(n) != validNestByHand(n) {
						t.Fatalf("ValidNest of %v is %v", n, !validNestByHand(n))
					}
				}
			}
		}
	}
}

func TestWrongNestsHaveFixedResults(t *testing.T) {
	for _, n := range wrongNests() {
		for _, kind := range allKinds() {
			checkNoStep(t, n, kind)
		}
		if out := impl.CleanUp(n); len(out) != 0 {
			t.Errorf("CleanUp of a depth of %d with %d marks = %v", n.Depth, len(n.Marks), out)
		}
	}
	for _, kinds := range wrongKinds() {
		if n, bad := impl.RunNest(kinds); bad != -1 || !sameNest(n, impl.Nest{}) {
			t.Errorf("RunNest of %d commands = %v, %d", len(kinds), n, bad)
		}
		if impl.KeptWork(kinds) != -1 {
			t.Errorf("KeptWork of %d commands = %d", len(kinds), impl.KeptWork(kinds))
		}
	}
}

func TestOddKindsHaveFixedResults(t *testing.T) {
	for _, n := range allNests() {
		for _, kind := range oddKinds() {
			checkNoStep(t, n, kind)
		}
	}
	for _, kind := range oddKinds() {
		kinds := []int{kind, 0, kind, 1, kind, 1, 3, kind}
		if n, bad := impl.RunNest(kinds); bad != 4 || !sameNest(n, impl.Nest{}) || impl.KeptWork(kinds) != 2 {
			t.Errorf("RunNest with %d = %v, %d", kind, n, bad)
		}
	}
}

// checkNoStep checks what StepNest returns where it fails.
func checkNoStep(t *testing.T, n impl.Nest, kind int) {
	if out, ok := impl.StepNest(n, kind); ok || !sameNest(out, impl.Nest{}) {
		t.Fatalf("StepNest of a depth of %d with %d marks and %d = %v, %v", n.Depth, len(n.Marks), kind, out, ok)
	}
}

func TestStepNestByHand(t *testing.T) {
	none := impl.Nest{}
	one := impl.Nest{Depth: 1, Work: 5, Marks: []int{0}}
	two := impl.Nest{Depth: 2, Work: 7, Marks: []int{0, 5}}
	full := impl.Nest{Depth: 2, Work: 12, Marks: []int{0, 12}}
	deep := impl.Nest{Depth: 4, Work: 9, Marks: []int{0, 2, 2, 6}}
	bad := impl.Nest{Depth: 2, Work: 7, Marks: []int{0, 5}, Broken: true}
	worst := impl.Nest{Depth: 4, Work: 12, Marks: []int{0, 0, 3, 12}, Broken: true}
	last := impl.Nest{Depth: 1, Work: 12, Marks: []int{0}, Broken: true}
	for _, x := range []struct {
		n    impl.Nest
		kind int
		want impl.Nest
	}{
		{none, impl.StepOpen, impl.Nest{Depth: 1, Marks: []int{0}}},
		{one, impl.StepOpen, impl.Nest{Depth: 2, Work: 5, Marks: []int{0, 5}}},
		{two, impl.StepOpen, impl.Nest{Depth: 3, Work: 7, Marks: []int{0, 5, 7}}},
		{full, impl.StepOpen, impl.Nest{Depth: 3, Work: 12, Marks: []int{0, 12, 12}}},
		{one, impl.StepWork, impl.Nest{Depth: 1, Work: 6, Marks: []int{0}}},
		{two, impl.StepWork, impl.Nest{Depth: 2, Work: 8, Marks: []int{0, 5}}},
		{deep, impl.StepWork, impl.Nest{Depth: 4, Work: 10, Marks: []int{0, 2, 2, 6}}},
		{one, impl.StepFail, impl.Nest{Depth: 1, Work: 5, Marks: []int{0}, Broken: true}},
		{two, impl.StepFail, bad},
		{bad, impl.StepFail, bad},
		{worst, impl.StepFail, worst},
		// What is kept inside is work of the one outside, and with none outside there is no work.
		{one, impl.StepKeep, none},
		{two, impl.StepKeep, impl.Nest{Depth: 1, Work: 7, Marks: []int{0}}},
		{full, impl.StepKeep, impl.Nest{Depth: 1, Work: 12, Marks: []int{0}}},
		{deep, impl.StepKeep, impl.Nest{Depth: 3, Work: 9, Marks: []int{0, 2, 2}}},
		{one, impl.StepBack, none},
		{two, impl.StepBack, one},
		{deep, impl.StepBack, impl.Nest{Depth: 3, Work: 6, Marks: []int{0, 2, 2}}},
		// The deepest one alone is taken back, and the others are mended by it.
		{bad, impl.StepBack, one},
		{worst, impl.StepBack, impl.Nest{Depth: 3, Work: 12, Marks: []int{0, 0, 3}}},
		{last, impl.StepBack, none},
	} {
		if out, ok := impl.StepNest(x.n, x.kind); !ok || !sameNest(out, x.want) {
			t.Errorf("StepNest of %v, %d = %v, %v, not %v", x.n, x.kind, out, ok, x.want)
		}
	}
	for _, kind := range []int{impl.StepWork, impl.StepFail, impl.StepKeep, impl.StepBack} {
		checkNoStep(t, none, kind)
	}
	for _, n := range []impl.Nest{bad, worst, last} {
		checkNoStep(t, n, impl.StepOpen)
		checkNoStep(t, n, impl.StepWork)
		checkNoStep(t, n, impl.StepKeep)
	}
	checkNoStep(t, deep, impl.StepOpen)
	checkNoStep(t, full, impl.StepWork)
}

func TestRunNestByHand(t *testing.T) {
	for _, x := range []struct {
		kinds []int
		want  impl.Nest
		bad   int
		kept  int
	}{
		{nil, impl.Nest{}, 0, 0},
		{[]int{0}, impl.Nest{Depth: 1, Marks: []int{0}}, 0, 0},
		{[]int{1, 2, 3, 4}, impl.Nest{}, 4, 0},
		{[]int{0, 1, 1, 3}, impl.Nest{}, 0, 2},
		{[]int{0, 1, 1, 4}, impl.Nest{}, 0, 0},
		{[]int{0, 1, 0, 1, 1, 3, 1, 3}, impl.Nest{}, 0, 4},
		{[]int{0, 1, 0, 1, 1, 4, 1, 3}, impl.Nest{}, 0, 2},
		{[]int{0, 1, 0, 1, 1, 3, 1, 4}, impl.Nest{}, 0, 0},
		// What is kept inside, and not outside yet.
		{[]int{0, 1, 0, 1, 1, 3, 1}, impl.Nest{Depth: 1, Work: 4, Marks: []int{0}}, 0, 0},
		{[]int{0, 0, 1, 3}, impl.Nest{Depth: 1, Work: 1, Marks: []int{0}}, 0, 0},
		// Several transactions one after the other, some of which are taken back.
		{[]int{0, 1, 3, 0, 1, 1, 3, 0, 1, 1, 1, 4, 0, 1, 3, 3}, impl.Nest{}, 1, 4},
		// A broken one takes nothing until it is taken back, and then the one outside goes on.
		{[]int{0, 1, 0, 1, 2, 1, 0, 3, 2, 4, 1, 3}, impl.Nest{}, 3, 2},
		{[]int{0, 1, 2, 3, 1, 4, 3}, impl.Nest{}, 3, 0},
		{[]int{0, 1, 2, 3, 4, 0, 1, 1, 3}, impl.Nest{}, 1, 2},
		{[]int{0, 1, 0, 2, 3}, impl.Nest{Depth: 2, Work: 1, Marks: []int{0, 1}, Broken: true}, 1, 0},
		// One transaction more than can be open.
		{[]int{0, 1, 0, 1, 0, 1, 0, 1, 0, 1}, impl.Nest{Depth: 4, Work: 5, Marks: []int{0, 1, 2, 3}}, 1, 0},
		{repeated(0, 16), impl.Nest{Depth: 4, Marks: []int{0, 0, 0, 0}}, 12, 0},
		// More work than can be done, also where a part of it is kept inside.
		{joined([]int{0}, repeated(1, 14), []int{3}), impl.Nest{}, 2, 12},
		{joined([]int{0}, repeated(1, 15)), impl.Nest{Depth: 1, Work: 12, Marks: []int{0}}, 3, 0},
		{joined([]int{0}, repeated(1, 7), []int{0}, repeated(1, 6), []int{3}), impl.Nest{Depth: 1, Work: 12, Marks: []int{0}}, 1, 0},
		{joined([]int{0}, repeated(1, 7), []int{0}, repeated(1, 5), []int{4, 1}), impl.Nest{Depth: 1, Work: 8, Marks: []int{0}}, 0, 0},
		{joined([]int{0}, repeated(1, 7), []int{3, 0}, repeated(1, 5), []int{3}), impl.Nest{}, 0, 12},
		// Something else is not possible, and changes nothing.
		{[]int{9, 0, 9, 1, -1, 3, 5}, impl.Nest{}, 4, 1},
		{repeated(9, 16), impl.Nest{}, 16, 0},
	} {
		if n, bad := impl.RunNest(x.kinds); bad != x.bad || !sameNest(n, x.want) {
			t.Errorf("RunNest of %v = %v, %d, not %v, %d", x.kinds, n, bad, x.want, x.bad)
		}
		if kept := impl.KeptWork(x.kinds); kept != x.kept {
			t.Errorf("KeptWork of %v = %d, not %d", x.kinds, kept, x.kept)
		}
	}
}

func TestCleanUpByHand(t *testing.T) {
	for depth := 0; depth <= 4; depth++ {
		for _, broken := range []bool{false, depth > 0} {
			n := impl.Nest{Depth: depth, Work: 3 * depth, Marks: make([]int, depth), Broken: broken}
			if out := impl.CleanUp(n); !sameNumbers(out, repeated(impl.StepBack, depth)) {
				t.Errorf("CleanUp of %v = %v", n, out)
			}
		}
	}
}

func TestNestsStepByStep(t *testing.T) {
	for _, s := range allStacks() {
		n := nestOf(s)
		for _, kind := range allKinds() {
			want, _, can := steppedByHand(s, kind)
			if !can {
				checkNoStep(t, n, kind)
				continue
			}
			if out, ok := impl.StepNest(n, kind); !ok || !sameNest(out, nestOf(want)) {
				t.Fatalf("StepNest of %v, %d = %v, %v, not %v", n, kind, out, ok, nestOf(want))
			}
		}
	}
	for _, kinds := range manyKinds() {
		s, bad, kept := ranByHand(kinds)
		if n, many := impl.RunNest(kinds); many != bad || !sameNest(n, nestOf(s)) {
			t.Fatalf("RunNest of %v = %v, %d, not %v, %d", kinds, n, many, nestOf(s), bad)
		}
		if out := impl.KeptWork(kinds); out != kept {
			t.Fatalf("KeptWork of %v = %d, not %d", kinds, out, kept)
		}
	}
}

func TestP99StatesCanBeMended(t *testing.T) {
	for _, n := range allNests() {
		mended := impl.Nest{Depth: n.Depth, Work: n.Work, Marks: n.Marks}
		if !impl.ValidNest(n) || !impl.ValidNest(mended) {
			t.Fatalf("ValidNest of %v or %v is false", n, mended)
		}
	}
}

func TestP100CommandsKeepStatesValid(t *testing.T) {
	changes := []int{1, 0, 0, -1, -1}
	var done [5]int
	for _, n := range allNests() {
		for kind, change := range changes {
			out, ok := impl.StepNest(n, kind)
			if !ok {
				continue
			}
			done[kind]++
			if !impl.ValidNest(out) || out.Depth != n.Depth+change {
				t.Fatalf("StepNest of %v, %d = %v", n, kind, out)
			}
		}
	}
	for kind, many := range done {
		if many == 0 {
			t.Errorf("the command %d is never possible", kind)
		}
	}
}

// stepAll returns a state after commands, all of which are possible.
func stepAll(t *testing.T, n impl.Nest, kinds []int) impl.Nest {
	out := n
	for _, kind := range kinds {
		next, ok := impl.StepNest(out, kind)
		if !ok {
			t.Fatalf("StepNest of %v, %d fails, one of %v after %v", out, kind, kinds, n)
		}
		out = next
	}
	return out
}

// canOpen reports whether a further transaction can be opened in a state.
func canOpen(n impl.Nest) bool {
	return n.Depth < 4 && !n.Broken
}

func TestP101WhatIsTakenBackWasNotDone(t *testing.T) {
	tried := 0
	for _, n := range allNests() {
		if !canOpen(n) {
			continue
		}
		for work := 0; n.Work+work <= 12; work++ {
			kinds := joined([]int{impl.StepOpen}, repeated(impl.StepWork, work))
			for _, fails := range []int{0, 1, 2} {
				out := stepAll(t, n, joined(kinds, repeated(impl.StepFail, fails), []int{impl.StepBack}))
				if !sameNest(out, n) {
					t.Fatalf("StepBack after %v of %v makes %v", kinds, n, out)
				}
			}
			tried += work
		}
	}
	if tried == 0 {
		t.Error("nothing is taken back")
	}
}

func TestP102WhatIsKeptInsideIsKept(t *testing.T) {
	inside := 0
	for _, n := range allNests() {
		if !canOpen(n) {
			continue
		}
		for work := 0; n.Work+work <= 12; work++ {
			out := stepAll(t, n, joined([]int{impl.StepOpen}, repeated(impl.StepWork, work), []int{impl.StepKeep}))
			want := impl.Nest{Depth: n.Depth, Work: n.Work + work, Marks: n.Marks}
			// Without a transaction outside no work is open.
			if n.Depth == 0 {
				want = impl.Nest{}
			} else {
				inside += work
			}
			if !sameNest(out, want) {
				t.Fatalf("StepKeep after StepOpen and the work %d of %v makes %v", work, n, out)
			}
		}
	}
	if inside == 0 {
		t.Error("nothing is kept inside")
	}
}

func TestP103BrokenStatesOnlyGoBack(t *testing.T) {
	broken := 0
	for _, n := range allNests() {
		if !n.Broken {
			continue
		}
		broken++
		for _, kind := range allKinds() {
			if kind != impl.StepFail && kind != impl.StepBack {
				checkNoStep(t, n, kind)
			}
		}
		if out, ok := impl.StepNest(n, impl.StepFail); !ok || !sameNest(out, n) {
			t.Fatalf("StepFail of %v = %v, %v", n, out, ok)
		}
		if out, ok := impl.StepNest(n, impl.StepBack); !ok || out.Broken || out.Depth != n.Depth-1 {
			t.Fatalf("StepBack of %v = %v, %v", n, out, ok)
		}
	}
	if broken == 0 {
		t.Error("no state is broken")
	}
}

func TestP104RunsGoCommandByCommand(t *testing.T) {
	for _, kinds := range manyKinds() {
		for many := 1; many <= len(kinds); many++ {
			before, bad := impl.RunNest(kinds[:many-1])
			after, more := impl.RunNest(kinds[:many])
			want, ok := impl.StepNest(before, kinds[many-1])
			if !ok {
				want = before
				bad++
			}
			if more != bad || !sameNest(after, want) {
				t.Fatalf("RunNest of %v = %v, %d, not %v, %d", kinds[:many], after, more, want, bad)
			}
		}
	}
}

func TestP105BadCommandsAreCounted(t *testing.T) {
	none, some := 0, 0
	for _, kinds := range manyKinds() {
		n, bad := impl.RunNest(kinds)
		if bad < 0 || bad > len(kinds) || !impl.ValidNest(n) {
			t.Fatalf("RunNest of %v = %v, %d", kinds, n, bad)
		}
		if bad == 0 {
			none++
		} else {
			some++
		}
	}
	if none == 0 || some == 0 {
		t.Errorf("%d runs have no bad commands, and %d have some", none, some)
	}
	for _, kinds := range [][]int{nil, {}} {
		if n, bad := impl.RunNest(kinds); bad != 0 || !sameNest(n, impl.Nest{}) {
			t.Errorf("RunNest of none = %v, %d", n, bad)
		}
	}
}

func TestP106KeptWorkWasDone(t *testing.T) {
	keeps, without := 0, 0
	for _, kinds := range manyKinds() {
		kept := impl.KeptWork(kinds)
		if kept < 0 || kept > countOf(kinds, impl.StepWork) {
			t.Fatalf("KeptWork of %v = %d", kinds, kept)
		}
		if kept > 0 {
			keeps++
		}
		if hasNumber(kinds, impl.StepKeep) {
			continue
		}
		without++
		if kept != 0 {
			t.Fatalf("KeptWork of %v, without StepKeep, = %d", kinds, kept)
		}
	}
	if keeps == 0 || without == 0 {
		t.Errorf("%d runs keep work, and %d are without StepKeep", keeps, without)
	}
}

func TestP107LaterCommandsLoseNothingThatWasKept(t *testing.T) {
	more := 0
	for _, kinds := range manyKinds() {
		before := 0
		for many := 0; many <= len(kinds); many++ {
			kept := impl.KeptWork(kinds[:many])
			if kept < before {
				t.Fatalf("KeptWork of %v = %d, and before %d", kinds[:many], kept, before)
			}
			if before > 0 && kept > before {
				more++
			}
			before = kept
		}
	}
	if more == 0 {
		t.Error("no run keeps work twice")
	}
}

func TestP108CleaningLeadsToTheOutside(t *testing.T) {
	for _, n := range allNests() {
		if out := stepAll(t, n, impl.CleanUp(n)); !sameNest(out, impl.Nest{}) {
			t.Fatalf("CleanUp of %v leads to %v", n, out)
		}
	}
}

func TestP167WorkIsKeptOrOpenOrTakenBack(t *testing.T) {
	all, less := 0, 0
	for _, kinds := range manyKinds() {
		n, _ := impl.RunNest(kinds)
		kept, done := impl.KeptWork(kinds), countOf(kinds, impl.StepWork)
		if n.Work+kept > done {
			t.Fatalf("RunNest of %v = %v, and KeptWork %d", kinds, n, kept)
		}
		if n.Work > 0 && kept > 0 && n.Work+kept == done {
			all++
		}
		if n.Work+kept < done {
			less++
		}
	}
	if all == 0 || less == 0 {
		t.Errorf("%d runs have all work open and kept, and %d have not", all, less)
	}
}

func TestP168WorkThatIsKeptAtOnceIsAllKept(t *testing.T) {
	for work := 0; work <= 12; work++ {
		for depth := 1; depth <= 4 && 2*depth+work <= 16; depth++ {
			kinds := joined(repeated(impl.StepOpen, depth), repeated(impl.StepWork, work), repeated(impl.StepKeep, depth))
			if kept := impl.KeptWork(kinds); kept != work {
				t.Errorf("KeptWork of %v = %d, not %d", kinds, kept, work)
			}
			if kept := impl.KeptWork(kinds[:len(kinds)-1]); kept != 0 {
				t.Errorf("KeptWork of %v = %d, before the outermost one is kept", kinds[:len(kinds)-1], kept)
			}
		}
	}
}

func TestP169CleaningTakesEverythingBack(t *testing.T) {
	for _, n := range allNests() {
		if out := impl.CleanUp(n); !sameNumbers(out, repeated(impl.StepBack, n.Depth)) {
			t.Fatalf("CleanUp of %v = %v", n, out)
		}
	}
	if len(impl.CleanUp(impl.Nest{})) != 0 || len(impl.CleanUp(impl.Nest{Marks: []int{}})) != 0 {
		t.Error("CleanUp of a state without transactions")
	}
}

func TestNestsShareNoMemory(t *testing.T) {
	// What lies behind each list is memory of the arguments, too.
	memory := []int{0, 2, 2, 5, 9, 9}
	for depth := 1; depth <= 4; depth++ {
		for _, broken := range []bool{false, true} {
			n := impl.Nest{Depth: depth, Work: 7, Marks: memory[:depth], Broken: broken}
			for _, kind := range allKinds() {
				out, _ := impl.StepNest(n, kind)
				spoilNumbers(out.Marks)
			}
			impl.ValidNest(n)
			spoilNumbers(impl.CleanUp(n))
			if out := impl.CleanUp(n); !sameNumbers(out, repeated(impl.StepBack, depth)) {
				t.Fatalf("CleanUp of %v the second time = %v", n, out)
			}
		}
	}
	if !sameNumbers(memory, []int{0, 2, 2, 5, 9, 9}) {
		t.Errorf("the marks become %v", memory)
	}
	kinds := []int{0, 1, 0, 1, 3, 9, 9}
	for many := 0; many <= 5; many++ {
		out, _ := impl.RunNest(kinds[:many])
		spoilNumbers(out.Marks)
		impl.KeptWork(kinds[:many])
	}
	if !sameNumbers(kinds, []int{0, 1, 0, 1, 3, 9, 9}) {
		t.Errorf("the commands become %v", kinds)
	}
	if again, bad := impl.RunNest(kinds[:4]); bad != 0 || !sameNest(again, impl.Nest{Depth: 2, Work: 2, Marks: []int{0, 1}}) {
		t.Errorf("RunNest the second time = %v, %d", again, bad)
	}
}

func TestNestResultsStayWhenTheArgumentChanges(t *testing.T) {
	for _, s := range allStacks() {
		for kind := 0; kind < 5; kind++ {
			n := nestOf(s)
			want, _, can := steppedByHand(s, kind)
			out, ok := impl.StepNest(n, kind)
			spoilNumbers(n.Marks)
			if ok != can || can && !sameNest(out, nestOf(want)) {
				t.Fatalf("StepNest of %v, %d becomes %v, %v", nestOf(s), kind, out, ok)
			}
		}
	}
}
