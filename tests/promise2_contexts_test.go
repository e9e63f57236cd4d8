package tests

import (
	"math"
	"slices"
	"testing"

	"loop.example/s02772/impl"
)

func unionOfSets(a dotSet, b dotSet) dotSet {
	both := dotSet{}
	for d := range a {
		both[d] = true
	}
	for d := range b {
		both[d] = true
	}
	return both
}

func checkAgainstSets(t *testing.T, a dotSet, b dotSet) {
	t.Helper()
	ca, cb := contextOfSet(a), contextOfSet(b)
	both := unionOfSets(a, b)
	if got, ok := impl.Union(ca, cb); !ok || !impl.ContextOk(got) || !sameContext(got, contextOfSet(both)) {
		t.Errorf("union of %v and %v: %v %v", ca, cb, got, ok)
	}
	if got, want := impl.Covers(ca, cb), len(both) == len(a); got != want {
		t.Errorf("%v covers %v: %v", ca, cb, got)
	}
}

func TestUnionAndCoversAreThoseOfSets(t *testing.T) {
	small := func(bits int) dotSet {
		set := dotSet{}
		for i := range 6 {
			if bits>>i&1 == 1 {
				set[impl.Dot{Rep: 3, Seq: i + 1}] = true
			}
		}
		return set
	}
	for a := range 64 {
		for b := range 64 {
			checkAgainstSets(t, small(a), small(b))
		}
	}
	d := &dice{state: 3}
	for range 2000 {
		a := diceSet(d)
		b := diceSet(d)
		checkAgainstSets(t, a, b)
		checkAgainstSets(t, unionOfSets(a, b), b)
	}
}

func greatestSeq(set dotSet, rep int) int {
	seq := 0
	for d := range set {
		if d.Rep == rep {
			seq = max(seq, d.Seq)
		}
	}
	return seq
}

func TestDotsAreThoseOfSets(t *testing.T) {
	d := &dice{state: 4}
	for range 200 {
		set := diceSet(d)
		c := contextOfSet(set)
		for _, dot := range universe() {
			if got := impl.HasDot(c, dot); got != set[dot] {
				t.Errorf("%v has %v: %v", c, dot, got)
			}
			more := contextOfSet(unionOfSets(set, dotSet{dot: true}))
			if got, ok := impl.AddDot(c, dot); !ok || !sameContext(got, more) {
				t.Errorf("%v and %v: %v %v", c, dot, got, ok)
			}
		}
		for rep := range impl.MaxReps {
			want := impl.Dot{Rep: rep, Seq: greatestSeq(set, rep) + 1}
			room := want.Seq <= impl.MaxSeq
			if !room {
				want = impl.Dot{}
			}
			if got, ok := impl.NextDot(c, rep); got != want || ok != room {
				t.Errorf("next of %d in %v: %v %v", rep, c, got, ok)
			}
		}
	}
}

// Every list of up to two runs within small limits is tried, so a set with two valid forms would be met.
func TestOneFormForASet(t *testing.T) {
	runs := []impl.Run{}
	for rep := range 2 {
		for from := range 6 {
			for to := range 6 {
				runs = append(runs, impl.Run{Rep: rep, From: from, To: to})
			}
		}
	}
	try := func(c impl.Context) {
		set := setOfContext(c)
		zero := slices.ContainsFunc(c.Runs, func(r impl.Run) bool { return r.From == 0 })
		if got, want := impl.ContextOk(c), !zero && sameContext(contextOfSet(set), c); got != want {
			t.Errorf("%v: %v", c, got)
		}
	}
	try(impl.Context{})
	for _, r := range runs {
		try(impl.Context{Runs: []impl.Run{r}})
		for _, s := range runs {
			try(impl.Context{Runs: []impl.Run{r, s}})
		}
	}
}

func TestValidAtTheLimits(t *testing.T) {
	for i, c := range []impl.Context{
		runsOf(), runsOf(0, 1, 1), runsOf(7, 1, impl.MaxSeq), runsOf(7, impl.MaxSeq, impl.MaxSeq),
		runsOf(0, 1, 1, 0, 3, 3), runsOf(0, 1, impl.MaxSeq-2, 0, impl.MaxSeq, impl.MaxSeq), runsOf(0, 5, 5, 1, 1, 1), runsOf(0, 1, 1, 1, 2, 2),
		lonely(1, 1, impl.MaxRuns), sideBySide(lonely(1, 1, impl.MaxRuns/2), lonely(2, 1, impl.MaxRuns/2)),
	} {
		if !impl.ContextOk(c) {
			t.Errorf("case %d is valid", i)
		}
	}
	if !impl.ContextOk(impl.Context{Runs: []impl.Run{}}) {
		t.Errorf("an empty list is as good as none")
	}
}

func TestContextsThatAreNotValid(t *testing.T) {
	good := runsOf(0, 1, 3, 1, 5, 5)
	dot := impl.Dot{Rep: 0, Seq: 1}
	for _, bad := range badContexts() {
		if impl.ContextOk(bad.ctx) || impl.HasDot(bad.ctx, dot) {
			t.Errorf("%s: taken as valid", bad.why)
		}
		if c, ok := impl.AddDot(bad.ctx, dot); ok || len(c.Runs) != 0 {
			t.Errorf("%s: AddDot %v %v", bad.why, c, ok)
		}
		for _, pair := range [][2]impl.Context{{bad.ctx, good}, {good, bad.ctx}, {bad.ctx, {}}, {{}, bad.ctx}, {bad.ctx, bad.ctx}} {
			if c, ok := impl.Union(pair[0], pair[1]); ok || len(c.Runs) != 0 {
				t.Errorf("%s: Union %v %v", bad.why, c, ok)
			}
			if impl.Covers(pair[0], pair[1]) {
				t.Errorf("%s: Covers", bad.why)
			}
		}
		for rep := -1; rep <= impl.MaxReps; rep++ {
			if d, ok := impl.NextDot(bad.ctx, rep); ok || d != (impl.Dot{}) {
				t.Errorf("%s: NextDot %v %v", bad.why, d, ok)
			}
		}
	}
}

func TestDotsOutOfRange(t *testing.T) {
	c := runsOf(0, 1, impl.MaxSeq, 7, 1, impl.MaxSeq)
	for _, d := range []impl.Dot{
		{Rep: -1, Seq: 1}, {Rep: impl.MaxReps, Seq: 1}, {Rep: math.MaxInt, Seq: 1}, {Rep: math.MinInt, Seq: 1},
		{Rep: 0, Seq: 0}, {Rep: 0, Seq: -1}, {Rep: 7, Seq: impl.MaxSeq + 1}, {Rep: 0, Seq: math.MaxInt}, {Rep: 0, Seq: math.MinInt},
	} {
		if impl.HasDot(c, d) {
			t.Errorf("has %v", d)
		}
		if got, ok := impl.AddDot(c, d); ok || len(got.Runs) != 0 {
			t.Errorf("added %v: %v %v", d, got, ok)
		}
		if got, ok := impl.AddDot(impl.Context{}, d); ok || len(got.Runs) != 0 {
			t.Errorf("added %v to nothing: %v %v", d, got, ok)
		}
	}
}

func TestNextDotAtItsEdges(t *testing.T) {
	c := runsOf(0, 1, impl.MaxSeq-1, 3, 1, 1, 3, impl.MaxSeq, impl.MaxSeq, 5, 2, 4, 5, 9, 9)
	for _, e := range []struct {
		rep  int
		want impl.Dot
		ok   bool
	}{
		{0, impl.Dot{Rep: 0, Seq: impl.MaxSeq}, true}, {3, impl.Dot{}, false}, {4, impl.Dot{Rep: 4, Seq: 1}, true}, {5, impl.Dot{Rep: 5, Seq: 10}, true},
		{-1, impl.Dot{}, false}, {impl.MaxReps, impl.Dot{}, false}, {math.MaxInt, impl.Dot{}, false}, {math.MinInt, impl.Dot{}, false},
	} {
		if got, ok := impl.NextDot(c, e.rep); got != e.want || ok != e.ok {
			t.Errorf("%d: %v %v", e.rep, got, ok)
		}
	}
}

func TestRunsAtTheirLimit(t *testing.T) {
	full := lonely(1, 1, impl.MaxRuns)
	last := 2*impl.MaxRuns - 1
	for i, c := range []struct {
		dot  impl.Dot
		runs int
	}{
		{impl.Dot{Rep: 1, Seq: 1}, impl.MaxRuns}, {impl.Dot{Rep: 1, Seq: last + 1}, impl.MaxRuns}, {impl.Dot{Rep: 1, Seq: 2}, impl.MaxRuns - 1},
		{impl.Dot{Rep: 1, Seq: last + 2}, 0}, {impl.Dot{Rep: 0, Seq: 1}, 0}, {impl.Dot{Rep: 2, Seq: 1}, 0},
	} {
		got, ok := impl.AddDot(full, c.dot)
		if len(got.Runs) != c.runs || ok != (c.runs > 0) {
			t.Errorf("case %d: %d runs, %v", i, len(got.Runs), ok)
		}
	}
	half := impl.MaxRuns / 2
	for i, c := range []struct {
		a    impl.Context
		b    impl.Context
		runs int
	}{
		{full, full, impl.MaxRuns}, {full, lonely(1, 2, impl.MaxRuns), 1}, {full, runsOf(1, 1, impl.MaxSeq), 1}, {full, impl.Context{}, impl.MaxRuns},
		{lonely(1, 1, half), lonely(1, 1+2*half, half), impl.MaxRuns}, {lonely(1, 1, half), lonely(1, 1+2*half, half+1), 0},
		{lonely(1, 1, half), lonely(2, 1, half), impl.MaxRuns}, {lonely(1, 1, half), lonely(2, 1, half+1), 0}, {full, lonely(4, 1, impl.MaxRuns), 0},
	} {
		for _, pair := range [][2]impl.Context{{c.a, c.b}, {c.b, c.a}} {
			got, ok := impl.Union(pair[0], pair[1])
			if len(got.Runs) != c.runs || ok != (c.runs > 0) || !impl.ContextOk(got) {
				t.Errorf("case %d: %d runs, %v", i, len(got.Runs), ok)
			}
		}
	}
}

func TestCoversAcrossRuns(t *testing.T) {
	a := runsOf(0, 1, 3, 0, 5, 9, 2, 4, impl.MaxSeq)
	for i, c := range []struct {
		b    impl.Context
		want bool
	}{
		{runsOf(), true}, {a, true}, {runsOf(0, 1, 1, 0, 3, 3, 0, 5, 5, 0, 9, 9), true}, {runsOf(2, impl.MaxSeq, impl.MaxSeq), true},
		{runsOf(0, 3, 5), false}, {runsOf(0, 4, 4), false}, {runsOf(0, 9, 10), false}, {runsOf(0, 1, 9), false}, {runsOf(1, 1, 1), false},
		{runsOf(2, 3, 4), false}, {runsOf(0, 1, 1, 2, 5, 5, 3, 1, 1), false},
	} {
		if got := impl.Covers(a, c.b); got != c.want {
			t.Errorf("case %d: %v", i, got)
		}
	}
	if impl.Covers(runsOf(), runsOf(0, 1, 1)) || !impl.Covers(runsOf(), runsOf()) {
		t.Errorf("the empty context")
	}
}

// roomy has spare room behind its runs, which an append into the argument would fill.
func roomy(c impl.Context) impl.Context {
	return impl.Context{Runs: append(make([]impl.Run, 0, len(c.Runs)+8), c.Runs...)}
}

func TestAnswersAreNewContexts(t *testing.T) {
	a := roomy(runsOf(0, 1, 3, 2, 7, 9))
	b := roomy(runsOf(0, 4, 6, 1, 1, 1))
	keptA := slices.Clone(a.Runs[:cap(a.Runs)])
	keptB := slices.Clone(b.Runs[:cap(b.Runs)])
	answers := []impl.Context{}
	for _, pair := range [][2]impl.Context{{a, b}, {b, a}, {a, {}}, {{}, a}, {a, a}} {
		c, _ := impl.Union(pair[0], pair[1])
		answers = append(answers, c)
	}
	for _, d := range []impl.Dot{{Rep: 0, Seq: 2}, {Rep: 0, Seq: 4}, {Rep: 2, Seq: 10}, {Rep: 7, Seq: 1}} {
		c, _ := impl.AddDot(a, d)
		answers = append(answers, c)
	}
	for _, c := range answers {
		for i := range c.Runs[:cap(c.Runs)] {
			c.Runs[:cap(c.Runs)][i] = impl.Run{Rep: 99, From: 99, To: 99}
		}
	}
	if !slices.Equal(a.Runs[:cap(a.Runs)], keptA) || !slices.Equal(b.Runs[:cap(b.Runs)], keptB) {
		t.Errorf("an argument was changed: %v %v", a, b)
	}
}
