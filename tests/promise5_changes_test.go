package tests

import (
	"fmt"
	"math"
	"strings"
	"testing"

	"loop.example/s02772/impl"
)

type changeKind int

const (
	write changeKind = iota
	flagOn
	flagOff
	remove
)

type change struct {
	kind  changeKind
	rep   int
	path  []string
	value string
}

func (c change) do(s impl.State) (impl.State, impl.State, int) {
	switch c.kind {
	case write:
		return impl.WriteReg(s, c.rep, c.path, c.value)
	case flagOn:
		return impl.SetFlag(s, c.rep, c.path, true)
	case flagOff:
		return impl.SetFlag(s, c.rep, c.path, false)
	}
	return impl.Remove(s, c.path)
}

func (c change) takes(l modelLeaf) bool {
	path := strings.Join(c.path, "/")
	switch c.kind {
	case write:
		return l.path == path && !l.flag
	case flagOn, flagOff:
		return l.path == path && l.flag
	}
	return l.path == path || strings.HasPrefix(l.path, path+"/")
}

// model gives the new state and the delta as the document's words have them, leaf by leaf.
func (c change) model(m model) (model, model) {
	next, delta := newModel(), newModel()
	next.known = unionOfSets(m.known, nil)
	for l := range m.leaves {
		if c.takes(l) {
			delta.known[l.dot] = true
		} else {
			next.leaves[l] = true
		}
	}
	if c.kind == write || c.kind == flagOn {
		dot := impl.Dot{Rep: c.rep, Seq: greatestSeq(m.known, c.rep) + 1}
		leaf := modelLeaf{strings.Join(c.path, "/"), c.kind == flagOn, dot, c.value}
		next.known[dot], delta.known[dot] = true, true
		next.leaves[leaf], delta.leaves[leaf] = true, true
	}
	return next, delta
}

func diceChange(d *dice) change {
	c := change{kind: changeKind(d.below(4)), rep: []int{0, 1, 2, impl.MaxReps - 1}[d.below(4)], path: names(dicePlace(d))}
	if c.kind == write {
		c.value = diceValue(d)
	}
	return c
}

func checkChange(t *testing.T, s impl.State, c change) (impl.State, impl.State) {
	t.Helper()
	next, delta, code := c.do(s)
	wantNext, wantDelta := c.model(modelOf(s))
	if code != 0 || !impl.StateOk(next) || !impl.StateOk(delta) {
		t.Fatalf("%v of %v: %v %v %d", c, s, next, delta, code)
	}
	if !sameState(next, wantNext.state()) || !sameState(delta, wantDelta.state()) {
		t.Errorf("%v of %v: %v %v", c, s, next, delta)
	}
	if j, ok := impl.Join(s, delta); !ok || !sameState(j, next) {
		t.Errorf("%v of %v: the join with the delta is %v", c, s, j)
	}
	if !impl.AtMost(s, next) || !impl.AtMost(delta, next) {
		t.Errorf("%v of %v: %v is not above", c, s, next)
	}
	return next, delta
}

func TestChangesOfStates(t *testing.T) {
	d := &dice{state: 21}
	for range 1500 {
		checkChange(t, diceState(d), diceChange(d))
	}
}

// Three replicas change and join at will; each keeps the join of its deltas, and these alone bring a new one to the same.
func TestDeltasCarryAllChanges(t *testing.T) {
	d := &dice{state: 22}
	for range 40 {
		states, deltas := [3]impl.State{}, [3]impl.State{}
		for range 30 {
			i := d.below(3)
			if d.below(4) == 0 {
				states[i] = mustJoin(t, states[i], states[d.below(3)])
				continue
			}
			c := diceChange(d)
			c.rep = i
			next, delta := checkChange(t, states[i], c)
			states[i] = next
			deltas[i] = mustJoin(t, deltas[i], delta)
		}
		want := mustJoin(t, mustJoin(t, states[0], states[1]), states[2])
		if got := mustJoin(t, deltas[2], mustJoin(t, deltas[0], deltas[1])); !sameState(got, want) {
			t.Errorf("the deltas come to %v, the states to %v", got, want)
		}
	}
}

func TestWhatADeltaHolds(t *testing.T) {
	s := stateOf(runsOf(0, 1, 9, 1, 1, 3, 5, 2, 2),
		regLeaf("m", 0, 3, "top"), flagLeaf("m", 0, 4), regLeaf("m/a", 0, 5, "x"), regLeaf("m/a", 1, 2, "y"), flagLeaf("m/a", 0, 7), regLeaf("m/a/z", 5, 2, "deep"), regLeaf("n", 1, 3, ""))
	for _, c := range []struct {
		why  string
		c    change
		want impl.State
		left int
	}{
		{"a register over two leaves", change{write, 1, names("m/a"), "z"}, stateOf(runsOf(0, 5, 5, 1, 2, 2, 1, 4, 4), regLeaf("m/a", 1, 4, "z")), 6},
		{"a register over one leaf just in front", change{write, 1, names("n"), ""}, stateOf(runsOf(1, 3, 4), regLeaf("n", 1, 4, "")), 7},
		{"a new register", change{write, 6, names("m/a/z/q"), "v"}, stateOf(runsOf(6, 1, 1), regLeaf("m/a/z/q", 6, 1, "v")), 8},
		{"a register where a map is", change{write, 0, names("m/a"), "v"}, stateOf(runsOf(0, 5, 5, 0, 10, 10, 1, 2, 2), regLeaf("m/a", 0, 10, "v")), 6},
		{"a flag over one leaf", change{flagOn, 0, names("m/a"), ""}, stateOf(runsOf(0, 7, 7, 0, 10, 10), flagLeaf("m/a", 0, 10)), 7},
		{"a flag beside a register", change{flagOn, 2, names("n"), ""}, stateOf(runsOf(2, 1, 1), flagLeaf("n", 2, 1)), 8},
		{"a flag off", change{flagOff, 7, names("m"), ""}, stateOf(runsOf(0, 4, 4)), 6},
		{"a flag off that is not on", change{flagOff, 0, names("n"), ""}, stateOf(impl.Context{}), 7},
		{"a flag off where nothing is", change{flagOff, 0, names("q/r"), ""}, stateOf(impl.Context{}), 7},
		{"all of a map, a register and a flag", change{remove, 0, names("m"), ""}, stateOf(runsOf(0, 3, 5, 0, 7, 7, 1, 2, 2, 5, 2, 2)), 1},
		{"all of an inner map", change{remove, 0, names("m/a"), ""}, stateOf(runsOf(0, 5, 5, 0, 7, 7, 1, 2, 2, 5, 2, 2)), 3},
		{"a register alone", change{remove, 0, names("m/a/z"), ""}, stateOf(runsOf(5, 2, 2)), 6},
		{"nothing to remove", change{remove, 0, names("m/b"), ""}, stateOf(impl.Context{}), 7},
		{"nothing under a register", change{remove, 0, names("n/a"), ""}, stateOf(impl.Context{}), 7},
	} {
		next, delta := checkChange(t, s, c.c)
		if !sameState(delta, c.want) || len(next.Leaves) != c.left {
			t.Errorf("%s: %v, %d leaves left", c.why, delta, len(next.Leaves))
		}
	}
}

// Names that only begin alike are other names: a name is never compared by its beginning.
func TestRemoveKeepsNamesThatBeginAlike(t *testing.T) {
	s := stateOf(runsOf(0, 1, 5), regLeaf("a", 0, 1, ""), regLeaf("a/b", 0, 2, ""), regLeaf("a/bb", 0, 3, ""), regLeaf("aa", 0, 4, ""), flagLeaf("aa/b", 0, 5))
	if next, _, code := impl.Remove(s, names("a/b")); code != 0 || len(next.Leaves) != 4 {
		t.Errorf("%v %d", next, code)
	}
	if next, _, code := impl.Remove(s, names("a")); code != 0 || len(next.Leaves) != 2 {
		t.Errorf("%v %d", next, code)
	}
}

func checkCode(t *testing.T, why string, s impl.State, c change, want int) {
	t.Helper()
	next, delta, code := c.do(s)
	if code != want {
		t.Errorf("%s, kind %d: code %d, not %d", why, c.kind, code, want)
	}
	if code != 0 && !(nothingIn(next) && nothingIn(delta)) {
		t.Errorf("%s, kind %d: %v %v beside code %d", why, c.kind, next, delta, code)
	}
	if code == 0 && (!impl.StateOk(next) || !impl.StateOk(delta) || !impl.AtMost(s, next) || !impl.AtMost(delta, next)) {
		t.Errorf("%s, kind %d: %v %v", why, c.kind, next, delta)
	}
}

func TestCode1OfChanges(t *testing.T) {
	long := strings.Repeat("v", impl.MaxText+1)
	for _, bad := range badStates() {
		for kind := write; kind <= remove; kind++ {
			checkCode(t, bad.why, bad.state, change{kind, 0, names("x"), ""}, 1)
			checkCode(t, bad.why+", and all else", bad.state, change{kind, -1, nil, long}, 1)
		}
	}
}

func TestCode2OfChanges(t *testing.T) {
	s := stateOf(runsOf(0, 1, 2), regLeaf("a", 0, 1, "v"))
	paths := append(badPaths(), badPath{"no name", nil}, badPath{"no name, as an empty list", []string{}})
	for _, bad := range paths {
		for kind := write; kind <= remove; kind++ {
			checkCode(t, bad.why, s, change{kind, 0, bad.path, ""}, 2)
			checkCode(t, bad.why+", and rep", s, change{kind, impl.MaxReps, bad.path, ""}, 2)
			checkCode(t, bad.why+", and the limits", manyLeaves(0, "n", impl.MaxLeaves), change{kind, 0, bad.path, ""}, 2)
		}
	}
	most := strings.Repeat("v", impl.MaxText)
	checkCode(t, "the longest value", s, change{write, 0, names("a"), most}, 0)
	checkCode(t, "a value of one byte too many", s, change{write, 0, names("a"), most + "v"}, 2)
	checkCode(t, "a value of too many bytes in few runes", s, change{write, 0, names("a"), strings.Repeat("é", 101)}, 2)
	checkCode(t, "a value too long, and rep", s, change{write, -1, names("a"), most + "v"}, 2)
	checkCode(t, "a value too long, and the limits", manyLeaves(0, "n", impl.MaxLeaves), change{write, 0, names("a"), most + "v"}, 2)
	name := strings.Repeat("n", impl.MaxName)
	deep := names(strings.Repeat(name+"/", impl.MaxDepth-1) + name)
	for kind := write; kind <= remove; kind++ {
		checkCode(t, "the longest path", s, change{kind, 0, deep, ""}, 0)
		checkCode(t, "a path of odd bytes", s, change{kind, 0, []string{"\x00", "/", " \n\xff"}, ""}, 0)
	}
}

func TestCode3OfChanges(t *testing.T) {
	full := manyLeaves(0, "n", impl.MaxLeaves)
	for _, rep := range []int{-1, impl.MaxReps, math.MinInt, math.MaxInt} {
		for kind := write; kind < remove; kind++ {
			checkCode(t, "rep out of range", impl.State{}, change{kind, rep, names("x"), ""}, 3)
			checkCode(t, "rep out of range, and the limits", full, change{kind, rep, names("x"), ""}, 3)
		}
	}
	for rep := range impl.MaxReps {
		for kind := write; kind <= remove; kind++ {
			checkCode(t, "rep in range", impl.State{}, change{kind, rep, names("x"), ""}, 0)
		}
	}
	top := stateOf(runsOf(2, impl.MaxSeq, impl.MaxSeq, 3, 1, impl.MaxSeq-1), flagLeaf("x", 2, impl.MaxSeq))
	checkCode(t, "no NextDot", top, change{write, 2, names("x"), ""}, 3)
	checkCode(t, "no NextDot", top, change{flagOn, 2, names("x"), ""}, 3)
	checkCode(t, "no NextDot is needed", top, change{flagOff, 2, names("x"), ""}, 0)
	checkCode(t, "no NextDot is needed", top, change{remove, 2, names("x"), ""}, 0)
	checkCode(t, "the last dot", top, change{write, 3, names("x"), ""}, 0)
	checkCode(t, "the last dot", top, change{flagOn, 3, names("x"), ""}, 0)
	full.Ctx = runsOf(0, 1, impl.MaxSeq)
	checkCode(t, "no NextDot, and the limits", full, change{write, 0, names("x"), ""}, 3)
	checkCode(t, "no NextDot, and the limits", full, change{flagOn, 0, names("x"), ""}, 3)
}

func TestCode4ForLeaves(t *testing.T) {
	full := manyLeaves(0, "n", impl.MaxLeaves)
	almost := manyLeaves(0, "n", impl.MaxLeaves-1)
	for _, kind := range []changeKind{write, flagOn} {
		checkCode(t, "one leaf too many", full, change{kind, 1, names("new"), ""}, 4)
		checkCode(t, "one leaf too many under a register", full, change{kind, 1, names("n0000/new"), ""}, 4)
		checkCode(t, "just MaxLeaves", almost, change{kind, 1, names("new"), ""}, 0)
	}
	checkCode(t, "another value", full, change{write, 1, names("n0000"), "w"}, 0)
	checkCode(t, "a flag at a register", full, change{flagOn, 1, names("n0000"), ""}, 4)
	checkCode(t, "no new leaf", full, change{flagOff, 1, names("n0000"), ""}, 0)
	checkCode(t, "no new leaf", full, change{remove, 1, names("n0000"), ""}, 0)
}

func TestCode4ForRuns(t *testing.T) {
	full := stateOf(lonely(1, 1, impl.MaxRuns))
	for _, kind := range []changeKind{write, flagOn} {
		checkCode(t, "one run too many in front", full, change{kind, 0, names("x"), ""}, 4)
		checkCode(t, "one run too many behind", full, change{kind, 2, names("x"), ""}, 4)
		checkCode(t, "the last run grows", full, change{kind, 1, names("x"), ""}, 0)
		checkCode(t, "just MaxRuns", stateOf(lonely(1, 1, impl.MaxRuns-1)), change{kind, 2, names("x"), ""}, 0)
	}
	checkCode(t, "no new run", full, change{flagOff, 0, names("x"), ""}, 0)
	checkCode(t, "no new run", full, change{remove, 0, names("x"), ""}, 0)
}

func TestCode4ForTheDelta(t *testing.T) {
	most := 2*impl.MaxLeaves - 1
	for i, kind := range []changeKind{write, flagOn} {
		flag := kind == flagOn
		off := []changeKind{remove, flagOff}[i]
		checkCode(t, "a run apart from the last dot", crowd("x", flag, 1, impl.MaxLeaves, most+1), change{kind, 1, names("x"), ""}, 4)
		checkCode(t, "a run of another replica", crowd("x", flag, 1, impl.MaxLeaves, most), change{kind, 0, names("x"), ""}, 4)
		checkCode(t, "the new dot touches the last one", crowd("x", flag, 1, impl.MaxLeaves, most), change{kind, 1, names("x"), ""}, 0)
		checkCode(t, "just MaxRuns", crowd("x", flag, 1, impl.MaxRuns-1, most), change{kind, 0, names("x"), ""}, 0)
		next, delta, code := change{off, 0, names("x"), ""}.do(crowd("x", flag, 1, impl.MaxLeaves, most+1))
		if code != 0 || len(next.Leaves) != 0 || len(delta.Ctx.Runs) != impl.MaxRuns {
			t.Errorf("all taken back: %d leaves, %d runs, %d", len(next.Leaves), len(delta.Ctx.Runs), code)
		}
	}
}

func TestChangesGiveNewMemory(t *testing.T) {
	d := &dice{state: 23}
	for i := range 300 {
		s := roomyState(diceState(d))
		c := diceChange(d)
		c.path = roomyPath(c.path)
		kept, keptPath := asIs(s), pathAsIs(c.path)
		next, delta, code := c.do(s)
		if code != 0 || asIs(s) != kept || pathAsIs(c.path) != keptPath {
			t.Errorf("an argument was changed: %v %v %d", s, c, code)
		}
		all := lists{}
		all.addState(next)
		all.addState(delta)
		all.addState(s)
		all.addPath(c.path)
		all.checkApart(t, fmt.Sprint("change ", i))
	}
}
