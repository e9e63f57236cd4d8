package tests

import (
	"fmt"
	"strings"
	"testing"

	"loop.example/s02772/impl"
)

func mustJoin(t *testing.T, a impl.State, b impl.State) impl.State {
	t.Helper()
	j, ok := impl.Join(a, b)
	if !ok || !impl.StateOk(j) {
		t.Fatalf("no valid join of %v and %v: %v %v", a, b, j, ok)
	}
	return j
}

func checkLaws(t *testing.T, a impl.State, b impl.State, c impl.State) {
	t.Helper()
	ab := mustJoin(t, a, b)
	if want := joinOfModels(modelOf(a), modelOf(b)).state(); !sameState(ab, want) {
		t.Errorf("join of %v and %v: %v, not %v", a, b, ab, want)
	}
	if ba := mustJoin(t, b, a); !sameState(ab, ba) {
		t.Errorf("order: %v and %v", ab, ba)
	}
	if x, y := mustJoin(t, ab, c), mustJoin(t, a, mustJoin(t, b, c)); !sameState(x, y) {
		t.Errorf("grouping: %v and %v", x, y)
	}
	if aa := mustJoin(t, a, a); !sameState(aa, a) {
		t.Errorf("%v with itself: %v", a, aa)
	}
	if !impl.AtMost(a, a) || !impl.AtMost(a, ab) || !impl.AtMost(b, ab) {
		t.Errorf("%v is not above %v and %v", ab, a, b)
	}
	if got, want := impl.AtMost(a, b), sameState(ab, b); got != want {
		t.Errorf("%v at most %v: %v", a, b, got)
	}
	if impl.AtMost(a, b) && impl.AtMost(b, a) && !sameState(a, b) {
		t.Errorf("%v and %v are below each other", a, b)
	}
	if impl.AtMost(a, b) && impl.AtMost(b, c) && !impl.AtMost(a, c) {
		t.Errorf("%v, %v, %v: not transitive", a, b, c)
	}
	if impl.AtMost(a, c) && impl.AtMost(b, c) && !impl.AtMost(ab, c) {
		t.Errorf("%v is above %v and %v, but not above %v", c, a, b, ab)
	}
}

// Two dots, each unknown, known without a leaf, or at one of three places: all states of them, and all triples of these.
func TestLawsOfAllSmallStates(t *testing.T) {
	dots := []impl.Dot{{Rep: 0, Seq: 1}, {Rep: 1, Seq: 1}}
	states := []impl.State{}
	for i := range 25 {
		m := newModel()
		for k, choice := range []int{i % 5, i / 5} {
			if choice > 0 {
				m.known[dots[k]] = true
			}
			switch choice {
			case 2:
				m.leaves[modelLeaf{"x", false, dots[k], "v"}] = true
			case 3:
				m.leaves[modelLeaf{"x", false, dots[k], "w"}] = true
			case 4:
				m.leaves[modelLeaf{"x/y", true, dots[k], ""}] = true
			}
		}
		states = append(states, m.state())
	}
	for _, a := range states {
		for _, b := range states {
			for _, c := range states {
				checkLaws(t, a, b, c)
			}
		}
	}
}

func TestLawsOfStates(t *testing.T) {
	d := &dice{state: 11}
	for range 500 {
		a, b, c := diceState(d), diceState(d), diceState(d)
		checkLaws(t, a, b, c)
		above := mustJoin(t, mustJoin(t, a, b), c)
		checkLaws(t, a, b, above)
		checkLaws(t, a, mustJoin(t, a, b), above)
	}
}

// All orders in which four states can be joined, each one more than once, come to the same.
func TestJoinInEveryOrder(t *testing.T) {
	d := &dice{state: 12}
	for range 40 {
		states := []impl.State{diceState(d), diceState(d), diceState(d), diceState(d)}
		want := joinOfModels(joinOfModels(modelOf(states[0]), modelOf(states[1])), joinOfModels(modelOf(states[2]), modelOf(states[3]))).state()
		for code := range 256 {
			order := [4]int{code & 3, code >> 2 & 3, code >> 4 & 3, code >> 6}
			if 1<<order[0]|1<<order[1]|1<<order[2]|1<<order[3] != 15 {
				continue
			}
			at := impl.State{}
			for _, i := range order {
				at = mustJoin(t, states[i], mustJoin(t, at, states[i]))
			}
			if !sameState(at, want) {
				t.Errorf("order %v: %v, not %v", order, at, want)
			}
		}
	}
}

func TestJoinDecidesEachLeafAlone(t *testing.T) {
	one := runsOf(0, 1, 1)
	none := impl.Context{}
	v := regLeaf("x", 0, 1, "v")
	for _, c := range []struct {
		why  string
		a    impl.State
		b    impl.State
		want impl.State
	}{
		{"a dot that the other one does not know", stateOf(one, v), stateOf(none), stateOf(one, v)},
		{"a dot that the other one knows", stateOf(one, v), stateOf(one), stateOf(one)},
		{"a dot just behind what the other one knows", stateOf(runsOf(0, 2, 2), regLeaf("x", 0, 2, "v")), stateOf(one), stateOf(runsOf(0, 1, 2), regLeaf("x", 0, 2, "v"))},
		{"a dot of another replica", stateOf(one, v), stateOf(runsOf(1, 1, 1)), stateOf(runsOf(0, 1, 1, 1, 1, 1), v)},
		{"a leaf of both", stateOf(one, v), stateOf(runsOf(0, 1, 3), v), stateOf(runsOf(0, 1, 3), v)},
		{"one dot, two values", stateOf(one, v), stateOf(one, regLeaf("x", 0, 1, "w")), stateOf(one)},
		{"one dot, two paths", stateOf(one, v), stateOf(one, regLeaf("y", 0, 1, "v")), stateOf(one)},
		{"one dot, two paths that begin alike", stateOf(one, v), stateOf(one, regLeaf("x/y", 0, 1, "v")), stateOf(one)},
		{"one dot, a register and a flag", stateOf(one, regLeaf("x", 0, 1, "")), stateOf(one, flagLeaf("x", 0, 1)), stateOf(one)},
		{"one dot at two places beside others", stateOf(runsOf(0, 1, 2), regLeaf("a", 0, 2, "k"), v), stateOf(runsOf(0, 1, 1, 1, 1, 1), regLeaf("y", 0, 1, "v"), flagLeaf("y", 1, 1)),
			stateOf(runsOf(0, 1, 2, 1, 1, 1), regLeaf("a", 0, 2, "k"), flagLeaf("y", 1, 1))},
		{"two leaves of a register", stateOf(one, v), stateOf(runsOf(1, 1, 1), regLeaf("x", 1, 1, "v")), stateOf(runsOf(0, 1, 1, 1, 1, 1), v, regLeaf("x", 1, 1, "v"))},
		{"three keys of a name", stateOf(runsOf(0, 1, 2), regLeaf("x/y", 0, 1, ""), flagLeaf("x/y", 0, 2)), stateOf(runsOf(1, 1, 1), regLeaf("x", 1, 1, "")),
			stateOf(runsOf(0, 1, 2, 1, 1, 1), regLeaf("x", 1, 1, ""), regLeaf("x/y", 0, 1, ""), flagLeaf("x/y", 0, 2))},
		{"nothing and nothing", stateOf(none), stateOf(none), stateOf(none)},
	} {
		for _, pair := range [][2]impl.State{{c.a, c.b}, {c.b, c.a}} {
			if j, ok := impl.Join(pair[0], pair[1]); !ok || !sameState(j, c.want) {
				t.Errorf("%s: %v %v", c.why, j, ok)
			}
		}
	}
}

func TestAtMost(t *testing.T) {
	one, two := runsOf(0, 1, 1), runsOf(0, 1, 2)
	v := regLeaf("x", 0, 1, "v")
	for i, c := range []struct {
		a    impl.State
		b    impl.State
		want bool
	}{
		{stateOf(impl.Context{}), stateOf(one, v), true}, {stateOf(one, v), stateOf(impl.Context{}), false},
		{stateOf(one, v), stateOf(one), true}, {stateOf(one), stateOf(one, v), false},
		{stateOf(one, v), stateOf(two, v), true}, {stateOf(two, v), stateOf(one, v), false},
		{stateOf(one, v), stateOf(one, regLeaf("x", 0, 1, "w")), false}, {stateOf(one, v), stateOf(one, regLeaf("y", 0, 1, "v")), false},
		{stateOf(one, v), stateOf(runsOf(1, 1, 1)), false}, {stateOf(one), stateOf(runsOf(0, 2, 2)), false},
		{stateOf(lonely(1, 1, impl.MaxRuns)), stateOf(lonely(1, 1, impl.MaxRuns)), true}, {stateOf(lonely(1, 1, impl.MaxRuns)), stateOf(runsOf(1, 1, impl.MaxSeq)), true},
		{stateOf(lonely(1, 1, impl.MaxRuns)), stateOf(one), false}, {stateOf(one), stateOf(lonely(1, 1, impl.MaxRuns)), false},
		{manyLeaves(0, "n", impl.MaxLeaves), manyLeaves(0, "n", impl.MaxLeaves), true}, {manyLeaves(0, "n", impl.MaxLeaves), manyLeaves(1, "m", 1), false},
	} {
		if got := impl.AtMost(c.a, c.b); got != c.want {
			t.Errorf("case %d: %v", i, got)
		}
	}
}

func TestValidStatesAtTheLimits(t *testing.T) {
	ctx := runsOf(0, 1, 9, 1, 1, 9)
	name := strings.Repeat("n", impl.MaxName)
	deep := strings.Repeat(name+"/", impl.MaxDepth-1) + name
	odd := impl.Leaf{Path: []string{"\x00\xff", "/ \n"}, Dot: impl.Dot{Rep: 0, Seq: 1}, Value: "\x00\xff\n"}
	for i, s := range []impl.State{
		{}, {Leaves: []impl.Leaf{}, Ctx: impl.Context{Runs: []impl.Run{}}}, stateOf(ctx), stateOf(lonely(1, 1, impl.MaxRuns)),
		stateOf(ctx, regLeaf(deep, 0, 1, strings.Repeat("v", impl.MaxText))), stateOf(ctx, flagLeaf(deep, 1, 9)), stateOf(ctx, odd),
		stateOf(runsOf(7, 1, impl.MaxSeq), regLeaf("a", 7, 1, ""), regLeaf("a", 7, impl.MaxSeq, "")),
		stateOf(ctx, regLeaf("a", 0, 9, ""), regLeaf("a", 1, 1, ""), flagLeaf("a", 0, 1), flagLeaf("a", 0, 2), flagLeaf("a", 1, 2), regLeaf("a/b", 0, 3, "")),
		stateOf(ctx, regLeaf("a/b", 0, 2, ""), regLeaf("a!", 0, 1, "")), stateOf(ctx, flagLeaf("a", 0, 2), regLeaf("a/b", 0, 1, "")),
		stateOf(ctx, regLeaf("B", 0, 2, ""), regLeaf("a", 0, 1, "")), stateOf(ctx, regLeaf("aa", 0, 2, ""), regLeaf("b", 0, 1, "")),
		manyLeaves(3, "n", impl.MaxLeaves), crowd("a/b", true, 2, impl.MaxLeaves, 2*impl.MaxLeaves),
	} {
		if !impl.StateOk(s) {
			t.Errorf("case %d is valid", i)
		}
		if j, ok := impl.Join(s, s); !ok || !sameState(j, s) {
			t.Errorf("case %d with itself: %v", i, ok)
		}
		if j, ok := impl.Join(impl.State{}, s); !ok || !sameState(j, s) || !impl.AtMost(impl.State{}, s) {
			t.Errorf("case %d with the empty state: %v", i, ok)
		}
	}
}

// Every list of up to two leaves out of a few is tried, so a tree with two valid forms would be met.
func TestOneFormForATree(t *testing.T) {
	leaves := []impl.Leaf{}
	for _, path := range []string{"a", "a/b", "a!", "b"} {
		for rep := range 2 {
			for seq := 1; seq <= 3; seq++ {
				leaves = append(leaves, regLeaf(path, rep, seq, "v"), flagLeaf(path, rep, seq))
			}
		}
	}
	ctx := runsOf(0, 1, 2, 1, 1, 2)
	for _, a := range leaves {
		if got, want := impl.StateOk(stateOf(ctx, a)), a.Dot.Seq < 3; got != want {
			t.Errorf("%v: %v", a, got)
		}
		for _, b := range leaves {
			want := a.Dot.Seq < 3 && b.Dot.Seq < 3 && a.Dot != b.Dot && leafOrder(a, b) < 0
			if got := impl.StateOk(stateOf(ctx, a, b)); got != want {
				t.Errorf("%v %v: %v", a, b, got)
			}
		}
	}
}

func TestStatesThatAreNotValid(t *testing.T) {
	good := stateOf(runsOf(0, 1, 3), regLeaf("k", 0, 1, "v"))
	for _, bad := range badStates() {
		if impl.StateOk(bad.state) {
			t.Errorf("%s: taken as valid", bad.why)
		}
		for _, pair := range [][2]impl.State{{bad.state, good}, {good, bad.state}, {bad.state, {}}, {{}, bad.state}, {bad.state, bad.state}} {
			if j, ok := impl.Join(pair[0], pair[1]); ok || !nothingIn(j) {
				t.Errorf("%s: Join %v %v", bad.why, j, ok)
			}
			if impl.AtMost(pair[0], pair[1]) {
				t.Errorf("%s: AtMost", bad.why)
			}
		}
	}
}

func checkJoinSize(t *testing.T, why string, a impl.State, b impl.State, leaves int, runs int, there bool) {
	t.Helper()
	if !impl.StateOk(a) || !impl.StateOk(b) {
		t.Fatalf("%s: no valid states", why)
	}
	for _, pair := range [][2]impl.State{{a, b}, {b, a}} {
		j, ok := impl.Join(pair[0], pair[1])
		if ok != there || len(j.Leaves) != leaves || len(j.Ctx.Runs) != runs || !impl.StateOk(j) {
			t.Errorf("%s: %d leaves, %d runs, %v", why, len(j.Leaves), len(j.Ctx.Runs), ok)
		}
		if !there && (impl.AtMost(pair[0], pair[1]) || impl.AtMost(pair[1], pair[0])) {
			t.Errorf("%s: AtMost without a join", why)
		}
	}
}

func TestJoinAtItsLimits(t *testing.T) {
	full := manyLeaves(0, "n", impl.MaxLeaves)
	half := impl.MaxLeaves / 2
	checkJoinSize(t, "just MaxLeaves", manyLeaves(0, "n", half), manyLeaves(1, "m", impl.MaxLeaves-half), impl.MaxLeaves, 2, true)
	checkJoinSize(t, "one more", manyLeaves(0, "n", half), manyLeaves(1, "m", impl.MaxLeaves-half+1), 0, 0, false)
	checkJoinSize(t, "one more in the same registers", manyLeaves(0, "n", half), manyLeaves(1, "n", impl.MaxLeaves-half+1), 0, 0, false)
	checkJoinSize(t, "one more in one register", crowd("a", false, 0, impl.MaxLeaves, 2000), crowd("a", false, 1, 1, 1), 0, 0, false)
	checkJoinSize(t, "the same leaves", full, manyLeaves(0, "n", impl.MaxLeaves-1), impl.MaxLeaves, 1, true)
	taken := stateOf(runsOf(0, 1, 1, 1, 1, 1), regLeaf("m", 1, 1, ""))
	checkJoinSize(t, "one more, and one taken back", full, taken, impl.MaxLeaves, 2, true)
	checkJoinSize(t, "all taken back", full, stateOf(runsOf(0, 1, impl.MaxLeaves, 1, 1, 1), regLeaf("m", 1, 1, "")), 1, 2, true)
	runs := impl.MaxRuns / 2
	checkJoinSize(t, "just MaxRuns", stateOf(lonely(1, 1, runs)), stateOf(lonely(2, 1, impl.MaxRuns-runs)), 0, impl.MaxRuns, true)
	checkJoinSize(t, "a Union that is not there", stateOf(lonely(1, 1, runs)), stateOf(lonely(2, 1, impl.MaxRuns-runs+1)), 0, 0, false)
	checkJoinSize(t, "the same, with leaves", stateOf(lonely(1, 1, impl.MaxRuns), regLeaf("a", 1, 1, "")), stateOf(runsOf(0, 1, 1), flagLeaf("a", 0, 1)), 0, 0, false)
	checkJoinSize(t, "runs that close gaps", stateOf(lonely(1, 1, impl.MaxRuns), regLeaf("a", 1, 1, "")), stateOf(lonely(1, 2, impl.MaxRuns), regLeaf("a", 1, 2, "")), 2, 1, true)
}

// Joins that are all there come to the same in any order, also where they end just at the limits.
func TestJoinInEveryOrderAtTheLimits(t *testing.T) {
	parts := []impl.State{manyLeaves(0, "n", 400), manyLeaves(1, "n", 300), manyLeaves(2, "m", 300), stateOf(lonely(3, 1, impl.MaxRuns-3))}
	want := mustJoin(t, mustJoin(t, parts[0], parts[1]), mustJoin(t, parts[2], parts[3]))
	if len(want.Leaves) != impl.MaxLeaves || len(want.Ctx.Runs) != impl.MaxRuns {
		t.Fatalf("%d leaves, %d runs", len(want.Leaves), len(want.Ctx.Runs))
	}
	for _, order := range []string{"0123", "3210", "2031", "1302"} {
		at := impl.State{}
		for _, i := range order {
			at = mustJoin(t, at, parts[i-'0'])
		}
		if !sameState(at, want) {
			t.Errorf("order %s", order)
		}
	}
}

func TestJoinGivesNewMemory(t *testing.T) {
	d := &dice{state: 13}
	for i := range 200 {
		a, b := roomyState(diceState(d)), roomyState(diceState(d))
		if i%5 == 0 {
			b = a
		}
		keptA, keptB := asIs(a), asIs(b)
		impl.AtMost(a, b)
		j, _ := impl.Join(a, b)
		if asIs(a) != keptA || asIs(b) != keptB {
			t.Errorf("an argument was changed: %v %v", a, b)
		}
		all := lists{}
		all.addState(j)
		all.addState(a)
		if i%5 != 0 {
			all.addState(b)
		}
		all.checkApart(t, fmt.Sprint("join ", i))
	}
}
