package tests

import (
	"fmt"
	"slices"
	"strings"
	"testing"

	"loop.example/s02772/impl"
)

// names cuts at each '/', and gives no name for the empty text.
func names(path string) []string {
	if path == "" {
		return nil
	}
	return strings.Split(path, "/")
}

func regLeaf(path string, rep int, seq int, value string) impl.Leaf {
	return impl.Leaf{Path: names(path), Dot: impl.Dot{Rep: rep, Seq: seq}, Value: value}
}

func flagLeaf(path string, rep int, seq int) impl.Leaf {
	return impl.Leaf{Path: names(path), Flag: true, Dot: impl.Dot{Rep: rep, Seq: seq}}
}

func stateOf(ctx impl.Context, leaves ...impl.Leaf) impl.State {
	return impl.State{Leaves: leaves, Ctx: ctx}
}

func sameLeaf(a impl.Leaf, b impl.Leaf) bool {
	return slices.Equal(a.Path, b.Path) && a.Flag == b.Flag && a.Dot == b.Dot && a.Value == b.Value
}

func sameState(a impl.State, b impl.State) bool {
	return slices.EqualFunc(a.Leaves, b.Leaves, sameLeaf) && sameContext(a.Ctx, b.Ctx)
}

func nothingIn(s impl.State) bool {
	return len(s.Leaves) == 0 && len(s.Ctx.Runs) == 0
}

// modelLeaf has its path as one text, so that it can be a key; no name of a model has a '/'.
type modelLeaf struct {
	path  string
	flag  bool
	dot   impl.Dot
	value string
}

// model is a state as two sets, with no order and no form.
type model struct {
	leaves map[modelLeaf]bool
	known  dotSet
}

func newModel() model {
	return model{map[modelLeaf]bool{}, dotSet{}}
}

func pathOrder(a []string, b []string) int {
	for i := 0; i < len(a) && i < len(b); i++ {
		if a[i] != b[i] {
			return strings.Compare(a[i], b[i])
		}
	}
	return len(a) - len(b)
}

func leafOrder(a impl.Leaf, b impl.Leaf) int {
	if o := pathOrder(a.Path, b.Path); o != 0 {
		return o
	}
	if a.Flag != b.Flag {
		if b.Flag {
			return -1
		}
		return 1
	}
	if a.Dot.Rep != b.Dot.Rep {
		return a.Dot.Rep - b.Dot.Rep
	}
	return a.Dot.Seq - b.Dot.Seq
}

func (m model) state() impl.State {
	s := impl.State{Ctx: contextOfSet(m.known)}
	for l := range m.leaves {
		s.Leaves = append(s.Leaves, impl.Leaf{Path: names(l.path), Flag: l.flag, Dot: l.dot, Value: l.value})
	}
	slices.SortFunc(s.Leaves, leafOrder)
	return s
}

func modelOf(s impl.State) model {
	m := model{map[modelLeaf]bool{}, setOfContext(s.Ctx)}
	for _, l := range s.Leaves {
		m.leaves[modelLeaf{strings.Join(l.Path, "/"), l.Flag, l.Dot, l.Value}] = true
	}
	return m
}

func joinOfModels(a model, b model) model {
	j := model{map[modelLeaf]bool{}, unionOfSets(a.known, b.known)}
	for l := range a.leaves {
		if b.leaves[l] || !b.known[l.dot] {
			j.leaves[l] = true
		}
	}
	for l := range b.leaves {
		if !a.known[l.dot] {
			j.leaves[l] = true
		}
	}
	return j
}

// placesOfModels have names that begin other ones, paths that begin other ones, and a name with a byte below '/'.
func placesOfModels() []string {
	return []string{"a", "a/b", "a/b/c", "a!", "a0", "b", "1/2/3/4/5/6/7/8", "1/2/3/4"}
}

func dicePlace(d *dice) string {
	places := placesOfModels()
	return places[d.below(len(places))]
}

func diceValue(d *dice) string {
	return []string{"", "v", "w", "vv"}[d.below(4)]
}

// diceState gives valid states that no chain of changes need lead to: one dot may be at other places, or with other values, in two of them.
func diceState(d *dice) impl.State {
	m := newModel()
	oneIn := 1 + d.below(3)
	for _, rep := range []int{0, 1, impl.MaxReps - 1} {
		for seq := 1; seq <= 4; seq++ {
			dot := impl.Dot{Rep: rep, Seq: seq}
			if d.below(4) < oneIn {
				continue
			}
			m.known[dot] = true
			switch d.below(3) {
			case 0:
				m.leaves[modelLeaf{path: dicePlace(d), dot: dot, value: diceValue(d)}] = true
			case 1:
				m.leaves[modelLeaf{path: dicePlace(d), flag: true, dot: dot}] = true
			}
		}
	}
	return m.state()
}

// manyLeaves is count registers of the replica with the dots 1 to count, their names of four digits with a letter in front.
func manyLeaves(rep int, letter string, count int) impl.State {
	s := impl.State{}
	for i := range count {
		s.Leaves = append(s.Leaves, regLeaf(fmt.Sprintf("%s%04d", letter, i), rep, i+1, "v"))
	}
	if count > 0 {
		s.Ctx = runsOf(rep, 1, count)
	}
	return s
}

// crowd is one register, or flag, with count leaves of every second dot from 1 on, in a context of all dots up to last.
func crowd(path string, flag bool, rep int, count int, last int) impl.State {
	s := impl.State{Ctx: runsOf(rep, 1, last)}
	for i := range count {
		s.Leaves = append(s.Leaves, impl.Leaf{Path: names(path), Flag: flag, Dot: impl.Dot{Rep: rep, Seq: 1 + 2*i}})
	}
	return s
}

type badState struct {
	why   string
	state impl.State
}

func badStates() []badState {
	long := strings.Repeat("n", impl.MaxName)
	ctx := runsOf(0, 1, 9, 1, 1, 9)
	text := strings.Repeat("v", impl.MaxText)
	of := func(leaves ...impl.Leaf) impl.State { return stateOf(ctx, leaves...) }
	most := int(^uint(0) >> 1)
	bad := []badState{
		{"a path without names", of(regLeaf("", 0, 1, ""))},
		{"a path of one name too many", of(regLeaf("1/2/3/4/5/6/7/8/9", 0, 1, ""))},
		{"a name without bytes", of(impl.Leaf{Path: []string{""}, Dot: impl.Dot{Rep: 0, Seq: 1}})},
		{"a name without bytes in the middle", of(regLeaf("a//b", 0, 1, ""))},
		{"a name without bytes at the end", of(flagLeaf("a/b/", 0, 1))},
		{"a name of one byte too many", of(regLeaf(long+"n", 0, 1, ""))},
		{"a name of one byte too many in front", of(regLeaf(long+"n/b", 0, 1, ""))},
		{"a name of few runes and too many bytes", of(regLeaf(strings.Repeat("é", 21), 0, 1, ""))},
		{"a value of one byte too many", of(regLeaf("a", 0, 1, text+"v"))},
		{"a flag with a value", of(impl.Leaf{Path: names("a"), Flag: true, Dot: impl.Dot{Rep: 0, Seq: 1}, Value: "x"})},
		{"a dot behind the context", of(regLeaf("a", 0, 10, ""))},
		{"a dot of a replica without runs", of(regLeaf("a", 2, 1, ""))},
		{"a dot in a gap", stateOf(runsOf(0, 1, 1, 0, 3, 3), regLeaf("a", 0, 2, ""))},
		{"a dot of 0", of(flagLeaf("a", 0, 0))},
		{"a dot of no replica", of(flagLeaf("a", -1, 1))},
		{"a dot beyond all", of(flagLeaf("a", most, most))},
		{"a dot and no context", stateOf(impl.Context{}, regLeaf("a", 0, 1, ""))},
		{"paths descend", of(regLeaf("b", 0, 1, ""), regLeaf("a", 0, 2, ""))},
		{"paths descend in the second name", of(regLeaf("a/c", 0, 1, ""), regLeaf("a/b", 0, 2, ""))},
		{"a path behind one that it begins", of(regLeaf("a/b", 0, 1, ""), regLeaf("a", 0, 2, ""))},
		{"a flag's path behind one that it begins", of(regLeaf("a/b", 0, 1, ""), flagLeaf("a", 0, 2))},
		{"paths by their bytes with '/' between", of(regLeaf("a!", 0, 1, ""), regLeaf("a/b", 0, 2, ""))},
		{"names by their length", of(regLeaf("b", 0, 1, ""), regLeaf("aa", 0, 2, ""))},
		{"names without their case", of(regLeaf("a", 0, 1, ""), regLeaf("B", 0, 2, ""))},
		{"a flag in front of a register", of(flagLeaf("a", 0, 1), regLeaf("a", 0, 2, ""))},
		{"Reps descend", of(regLeaf("a", 1, 1, ""), regLeaf("a", 0, 2, ""))},
		{"Seqs descend", of(regLeaf("a", 0, 2, ""), regLeaf("a", 0, 1, ""))},
		{"Seqs of a flag descend", of(flagLeaf("a", 0, 2), flagLeaf("a", 0, 1))},
		{"a leaf twice", of(regLeaf("a", 0, 1, "v"), regLeaf("a", 0, 1, "v"))},
		{"a dot with two values", of(regLeaf("a", 0, 1, "v"), regLeaf("a", 0, 1, "w"))},
		{"a dot at a register and at a flag", of(regLeaf("a", 0, 1, ""), flagLeaf("a", 0, 1))},
		{"a dot at two paths", of(regLeaf("a", 0, 1, "v"), regLeaf("b", 0, 1, "v"))},
		{"a dot at two paths far from each other", of(regLeaf("a", 0, 1, ""), regLeaf("b", 0, 2, ""), regLeaf("c", 1, 1, ""), flagLeaf("c/d", 0, 1))},
		{"the last of three", of(regLeaf("a", 0, 1, ""), regLeaf("b", 0, 2, ""), regLeaf("a", 0, 3, ""))},
		{"the first of three", of(regLeaf("a", 2, 1, ""), regLeaf("b", 0, 2, ""), regLeaf("c", 0, 3, ""))},
		{"one leaf too many", manyLeaves(0, "n", impl.MaxLeaves+1)},
		{"one leaf of a register too many", crowd("a", false, 0, impl.MaxLeaves+1, 2*impl.MaxLeaves+1)},
	}
	for _, c := range badContexts() {
		bad = append(bad, badState{"context: " + c.why, stateOf(c.ctx)})
	}
	return append(bad, badState{"a context that is not valid and has the dot", stateOf(runsOf(0, 1, 1, 0, 2, 2), regLeaf("a", 0, 1, ""))})
}

type badPath struct {
	why  string
	path []string
}

// badPaths leaves out the path without names, which Keys takes.
func badPaths() []badPath {
	long := strings.Repeat("n", impl.MaxName)
	return []badPath{
		{"a name without bytes", []string{""}},
		{"a name without bytes in front", []string{"", "a"}},
		{"a name without bytes at the end", []string{"a", ""}},
		{"one name too many", names("1/2/3/4/5/6/7/8/9")},
		{"a name of one byte too many", []string{long + "n"}},
		{"the last name of one byte too many", []string{"a", long + "n"}},
	}
}

// lists gathers every list that a set of states is made of.
type lists struct {
	paths  [][]string
	leaves [][]impl.Leaf
	runs   [][]impl.Run
}

func (l *lists) addState(s impl.State) {
	for _, leaf := range s.Leaves {
		l.addPath(leaf.Path)
	}
	l.leaves = append(l.leaves, s.Leaves[:cap(s.Leaves)])
	l.runs = append(l.runs, s.Ctx.Runs[:cap(s.Ctx.Runs)])
}

func (l *lists) addPath(path []string) {
	l.paths = append(l.paths, path[:cap(path)])
}

func (l *lists) fill() {
	for i, p := range l.paths {
		for k := range p {
			p[k] = fmt.Sprint("list ", i)
		}
	}
	for i, leaves := range l.leaves {
		for k := range leaves {
			leaves[k] = impl.Leaf{Value: fmt.Sprint("list ", i)}
		}
	}
	for i, runs := range l.runs {
		for k := range runs {
			runs[k] = impl.Run{Rep: i}
		}
	}
}

// checkApart fills each list, its spare room too, with a mark of its own: where two share memory, one has lost its mark.
func (l *lists) checkApart(t *testing.T, what string) {
	t.Helper()
	l.fill()
	for i, p := range l.paths {
		if slices.ContainsFunc(p, func(s string) bool { return s != fmt.Sprint("list ", i) }) {
			t.Errorf("%s: paths share memory", what)
		}
	}
	for i, leaves := range l.leaves {
		if slices.ContainsFunc(leaves, func(x impl.Leaf) bool { return x.Value != fmt.Sprint("list ", i) }) {
			t.Errorf("%s: leaves share memory", what)
		}
	}
	for i, runs := range l.runs {
		if slices.ContainsFunc(runs, func(r impl.Run) bool { return r.Rep != i }) {
			t.Errorf("%s: runs share memory", what)
		}
	}
}

// roomyState has spare room behind every list, which an append into the argument would fill.
func roomyState(s impl.State) impl.State {
	r := impl.State{Leaves: append(make([]impl.Leaf, 0, len(s.Leaves)+4), s.Leaves...), Ctx: roomy(s.Ctx)}
	for i := range r.Leaves {
		r.Leaves[i].Path = roomyPath(r.Leaves[i].Path)
	}
	return r
}

func roomyPath(path []string) []string {
	return append(make([]string, 0, len(path)+4), path...)
}

// asIs shows a state with all spare room, so that two shows differ when anything was written.
func asIs(s impl.State) string {
	text := fmt.Sprintf("%v %v", s.Leaves[:cap(s.Leaves)], s.Ctx.Runs[:cap(s.Ctx.Runs)])
	for _, l := range s.Leaves {
		text += pathAsIs(l.Path)
	}
	return text
}

func pathAsIs(path []string) string {
	return fmt.Sprintf("%q", path[:cap(path)])
}
