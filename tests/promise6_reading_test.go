package tests

import (
	"fmt"
	"slices"
	"strings"
	"testing"

	"loop.example/s02772/impl"
)

func TestReadingAfterAChange(t *testing.T) {
	d := &dice{state: 31}
	for range 1500 {
		s, c := diceState(d), diceChange(d)
		next, _, code := c.do(s)
		if code != 0 {
			t.Fatalf("%v of %v: %d", c, s, code)
		}
		values, vok := impl.ReadReg(next, c.path)
		keys, kok := impl.Keys(next, c.path)
		on := impl.ReadFlag(next, c.path)
		if !vok || !kok {
			t.Errorf("%v of %v: not read", c, s)
		}
		switch {
		case c.kind == write && !slices.Equal(values, []string{c.value}):
			t.Errorf("%v of %v: %q", c, s, values)
		case (c.kind == flagOn || c.kind == flagOff) && on != (c.kind == flagOn):
			t.Errorf("%v of %v: %v", c, s, on)
		case c.kind == remove && (len(keys) != 0 || len(values) != 0 || on):
			t.Errorf("%v of %v: %v %q %v", c, s, keys, values, on)
		}
	}
}

// A change at one key is not seen at any other one.
func TestReadingElsewhereAfterAChange(t *testing.T) {
	d := &dice{state: 32}
	for range 500 {
		s, c := diceState(d), diceChange(d)
		next, _, _ := c.do(s)
		for _, place := range placesOfModels() {
			path := names(place)
			if c.kind == remove && len(path) >= len(c.path) && slices.Equal(path[:len(c.path)], c.path) {
				continue
			}
			here := slices.Equal(path, c.path)
			was, _ := impl.ReadReg(s, path)
			if is, _ := impl.ReadReg(next, path); !slices.Equal(was, is) && !(here && c.kind == write) {
				t.Errorf("%v of %v: the register at %v is %q", c, s, path, is)
			}
			if impl.ReadFlag(s, path) != impl.ReadFlag(next, path) && !(here && c.kind != write) {
				t.Errorf("%v of %v: the flag at %v", c, s, path)
			}
		}
	}
}

// keysOf goes by the document's words, leaf by leaf.
func keysOf(s impl.State, path []string) []impl.Key {
	set := map[impl.Key]bool{}
	for _, l := range s.Leaves {
		if len(l.Path) <= len(path) || !slices.Equal(l.Path[:len(path)], path) {
			continue
		}
		key := impl.Key{Name: l.Path[len(path)], Kind: impl.KindReg}
		if l.Flag {
			key.Kind = impl.KindFlag
		}
		if len(l.Path) > len(path)+1 {
			key.Kind = impl.KindMap
		}
		set[key] = true
	}
	keys := []impl.Key{}
	for key := range set {
		keys = append(keys, key)
	}
	slices.SortFunc(keys, func(a impl.Key, b impl.Key) int {
		if a.Name != b.Name {
			return strings.Compare(a.Name, b.Name)
		}
		return a.Kind - b.Kind
	})
	return keys
}

func valuesOf(s impl.State, path []string) []string {
	values := []string{}
	for _, l := range s.Leaves {
		if !l.Flag && slices.Equal(l.Path, path) && !slices.Contains(values, l.Value) {
			values = append(values, l.Value)
		}
	}
	slices.Sort(values)
	return values
}

func flagOf(s impl.State, path []string) bool {
	return slices.ContainsFunc(s.Leaves, func(l impl.Leaf) bool { return l.Flag && slices.Equal(l.Path, path) })
}

func checkReading(t *testing.T, s impl.State, path []string) {
	t.Helper()
	if keys, ok := impl.Keys(s, path); !ok || !slices.Equal(keys, keysOf(s, path)) {
		t.Errorf("keys at %q of %v: %v %v", path, s, keys, ok)
	}
	values, ok := impl.ReadReg(s, path)
	if want := valuesOf(s, path); ok != (len(path) > 0) || !slices.Equal(values, want) {
		t.Errorf("values at %q of %v: %q %v", path, s, values, ok)
	}
	if got := impl.ReadFlag(s, path); got != flagOf(s, path) {
		t.Errorf("flag at %q of %v: %v", path, s, got)
	}
}

func TestReadingGoesByTheLeaves(t *testing.T) {
	d := &dice{state: 33}
	paths := append(placesOfModels(), "", "1", "1/2/3", "a/b/c/d", "c", "1/2/3/4/5/6/7")
	for range 500 {
		s := diceState(d)
		for _, path := range paths {
			checkReading(t, s, names(path))
		}
		checkReading(t, s, []string{})
	}
}

func TestValuesSortedAndOnce(t *testing.T) {
	s := stateOf(runsOf(0, 1, 9, 1, 1, 9),
		regLeaf("x", 0, 1, "b"), regLeaf("x", 0, 2, "a"), regLeaf("x", 0, 3, "b"), regLeaf("x", 0, 4, ""), regLeaf("x", 1, 1, "B"), regLeaf("x", 1, 2, "a"), regLeaf("x", 1, 3, "\xff"), regLeaf("x", 1, 4, "aa"), regLeaf("x", 1, 5, "\x00"),
		flagLeaf("x", 1, 6), regLeaf("x/y", 1, 7, "under"), regLeaf("y", 1, 8, "other"))
	want := []string{"", "\x00", "B", "a", "aa", "b", "\xff"}
	if values, ok := impl.ReadReg(s, names("x")); !ok || !slices.Equal(values, want) {
		t.Errorf("%q %v", values, ok)
	}
	if values, ok := impl.ReadReg(s, names("x/z")); !ok || len(values) != 0 {
		t.Errorf("nothing there: %q %v", values, ok)
	}
	checkReading(t, s, names("x"))
	many := crowd("x", false, 0, impl.MaxLeaves, 2*impl.MaxLeaves)
	if values, ok := impl.ReadReg(many, names("x")); !ok || !slices.Equal(values, []string{""}) {
		t.Errorf("one value of many leaves: %q %v", values, ok)
	}
}

func TestKeysSortedAndOnce(t *testing.T) {
	s := stateOf(runsOf(0, 1, 20),
		regLeaf("B", 0, 1, ""), regLeaf("a", 0, 2, ""), regLeaf("a", 0, 3, ""), flagLeaf("a", 0, 4), flagLeaf("a", 0, 5), regLeaf("a/p", 0, 6, ""), flagLeaf("a/p", 0, 7), regLeaf("a/p/q/r", 0, 8, ""), regLeaf("a/q", 0, 9, ""),
		flagLeaf("a!", 0, 10), regLeaf("aa/x", 0, 11, ""), regLeaf("b", 0, 12, ""), regLeaf("b/x", 0, 13, ""))
	for path, want := range map[string][]impl.Key{
		"": {{Name: "B", Kind: impl.KindReg}, {Name: "a", Kind: impl.KindReg}, {Name: "a", Kind: impl.KindFlag}, {Name: "a", Kind: impl.KindMap}, {Name: "a!", Kind: impl.KindFlag},
			{Name: "aa", Kind: impl.KindMap}, {Name: "b", Kind: impl.KindReg}, {Name: "b", Kind: impl.KindMap}},
		"a":       {{Name: "p", Kind: impl.KindReg}, {Name: "p", Kind: impl.KindFlag}, {Name: "p", Kind: impl.KindMap}, {Name: "q", Kind: impl.KindReg}},
		"a/p":     {{Name: "q", Kind: impl.KindMap}},
		"a/p/q":   {{Name: "r", Kind: impl.KindReg}},
		"a/p/q/r": {},
		"a!":      {},
		"B":       {},
		"z":       {},
	} {
		if keys, ok := impl.Keys(s, names(path)); !ok || !slices.Equal(keys, want) {
			t.Errorf("%q: %v %v", path, keys, ok)
		}
		checkReading(t, s, names(path))
	}
}

func TestReadingAtTheLimits(t *testing.T) {
	name := strings.Repeat("n", impl.MaxName)
	deep := strings.Repeat(name+"/", impl.MaxDepth-1) + name
	s := stateOf(runsOf(0, 1, 2), regLeaf(deep, 0, 1, "v"), flagLeaf(deep, 0, 2))
	for i := 0; i <= impl.MaxDepth; i++ {
		checkReading(t, s, names(deep)[:i])
	}
	if keys, ok := impl.Keys(s, names(deep)); !ok || len(keys) != 0 {
		t.Errorf("under the deepest: %v %v", keys, ok)
	}
	checkReading(t, impl.State{}, nil)
	checkReading(t, manyLeaves(0, "n", impl.MaxLeaves), nil)
	odd := impl.Leaf{Path: []string{"a/b", "\x00"}, Dot: impl.Dot{Rep: 0, Seq: 1}, Value: "v"}
	s = stateOf(runsOf(0, 1, 1), odd)
	checkReading(t, s, odd.Path)
	checkReading(t, s, []string{"a/b"})
	checkReading(t, s, []string{"a", "b"})
}

func TestReadingAtPathsThatAreNotRight(t *testing.T) {
	s := stateOf(runsOf(0, 1, 2), regLeaf("a", 0, 1, "v"), flagLeaf("a", 0, 2))
	for _, path := range [][]string{nil, {}} {
		if values, ok := impl.ReadReg(s, path); ok || len(values) != 0 || impl.ReadFlag(s, path) {
			t.Errorf("the empty path: %q %v", values, ok)
		}
	}
	for _, bad := range badPaths() {
		if values, ok := impl.ReadReg(s, bad.path); ok || len(values) != 0 {
			t.Errorf("%s: %q %v", bad.why, values, ok)
		}
		if keys, ok := impl.Keys(s, bad.path); ok || len(keys) != 0 {
			t.Errorf("%s: %v %v", bad.why, keys, ok)
		}
		if impl.ReadFlag(s, bad.path) {
			t.Errorf("%s: a flag", bad.why)
		}
	}
}

func TestReadingStatesThatAreNotValid(t *testing.T) {
	for _, bad := range badStates() {
		paths := [][]string{nil, names("a")}
		for _, l := range bad.state.Leaves[:min(3, len(bad.state.Leaves))] {
			paths = append(paths, l.Path)
		}
		for _, path := range paths {
			if values, ok := impl.ReadReg(bad.state, path); ok || len(values) != 0 {
				t.Errorf("%s: %q %v", bad.why, values, ok)
			}
			if keys, ok := impl.Keys(bad.state, path); ok || len(keys) != 0 {
				t.Errorf("%s: %v %v", bad.why, keys, ok)
			}
			if impl.ReadFlag(bad.state, path) {
				t.Errorf("%s: a flag", bad.why)
			}
		}
	}
}

func TestReadingChangesNothing(t *testing.T) {
	d := &dice{state: 34}
	for range 100 {
		s := roomyState(diceState(d))
		path := roomyPath(names(dicePlace(d)))
		kept, keptPath := asIs(s), pathAsIs(path)
		values, _ := impl.ReadReg(s, path)
		keys, _ := impl.Keys(s, path[:1])
		impl.ReadFlag(s, path)
		impl.StateOk(s)
		for i := range values {
			values[i] = fmt.Sprint("value ", i)
		}
		for i := range keys {
			keys[i] = impl.Key{Name: "key", Kind: i}
		}
		if asIs(s) != kept || pathAsIs(path) != keptPath {
			t.Errorf("an argument was changed: %v %v", s, path)
		}
	}
}
