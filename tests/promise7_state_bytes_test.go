package tests

import (
	"bytes"
	"fmt"
	"math"
	"slices"
	"strings"
	"testing"

	"loop.example/s02772/impl"
)

func checkStateComesBack(t *testing.T, s impl.State) {
	t.Helper()
	b, code := impl.PutState(s)
	if code != 0 || !bytes.Equal(b, spelled(s)) {
		t.Errorf("%v is written as %v %d", s, b, code)
	}
	back, code := impl.GetState(b)
	if code != 0 || !sameState(back, s) {
		t.Errorf("%v comes back as %v %d", s, back, code)
	}
}

func TestStateComesBack(t *testing.T) {
	for _, s := range statesAtTheLimits(t) {
		checkStateComesBack(t, s)
	}
	d := &dice{state: 71}
	for range 3000 {
		checkStateComesBack(t, diceState(d))
	}
}

func TestStateAfterChangesComesBack(t *testing.T) {
	d := &dice{state: 72}
	s := impl.State{}
	for range 300 {
		next, delta, code := diceChange(d).do(s)
		if code != 0 {
			continue
		}
		checkStateComesBack(t, next)
		checkStateComesBack(t, delta)
		s = next
	}
}

func TestStateBytes(t *testing.T) {
	for i, c := range []struct {
		state impl.State
		want  []byte
	}{
		{impl.State{}, []byte{0, 0}},
		{stateOf(runsOf(5, 4, 9)), []byte{1, 5, 1, 3, 5, 0}},
		{stateOf(runsOf(0, 1, 1), regLeaf("ab", 0, 1, "xyz")), []byte("\x01\x00\x01\x00\x00\x01\x02ab\x01\x01\x00\x01\x03xyz")},
		{stateOf(runsOf(0, 1, 1), flagLeaf("ab", 0, 1)), []byte("\x01\x00\x01\x00\x00\x01\x02ab\x02\x01\x00\x01")},
		{stateOf(runsOf(0, 1, 1), flagLeaf("a/b", 0, 1)), []byte("\x01\x00\x01\x00\x00\x01\x01a\x03\x01\x01b\x02\x01\x00\x01")},
		{stateOf(runsOf(0, 1, 1, 1, 1, 2), regLeaf("a", 0, 1, ""), regLeaf("a", 1, 1, "v"), regLeaf("a", 1, 2, "")), []byte("\x02\x00\x01\x00\x00\x01\x01\x00\x01\x01\x01a\x01\x03\x00\x01\x00\x01\x01\x01v\x01\x02\x00")},
		{stateOf(runsOf(0, 1, 4), flagLeaf("B", 0, 4), regLeaf("a", 0, 3, ""), flagLeaf("a", 0, 2), flagLeaf("a/c", 0, 1)), []byte("\x01\x00\x01\x00\x03\x04\x01B\x02\x01\x00\x04\x01a\x01\x01\x00\x03\x00\x01a\x02\x01\x00\x02\x01a\x03\x01\x01c\x02\x01\x00\x01")},
		{stateOf(runsOf(0, 300, 300), flagLeaf("a", 0, 300)), []byte("\x01\x00\x01\xab\x02\x00\x01\x01a\x02\x01\x00\xac\x02")},
		{stateOf(runsOf(0, 1, 3), flagLeaf("a!", 0, 1), flagLeaf("a/b", 0, 2)), nil}, // out of order: '!' is below '/', but a name is compared as a whole
	} {
		b, code := impl.PutState(c.state)
		if c.want != nil && code != 0 || c.want == nil && code != 1 || !bytes.Equal(b, c.want) {
			t.Errorf("case %d: %q %d", i, b, code)
		}
	}
}

func TestSameBytesSameState(t *testing.T) {
	seen := map[string]impl.State{}
	places := []string{"x", "x/y", "y"}
	for i := range 11 * 11 {
		m := newModel()
		for k, choice := range []int{i % 11, i / 11} {
			dot := impl.Dot{Rep: k, Seq: 1}
			if choice > 0 {
				m.known[dot] = true
			}
			if choice > 1 {
				what := (choice - 2) % 3
				m.leaves[modelLeaf{places[(choice-2)/3], what == 2, dot, []string{"", "v", ""}[what]}] = true
			}
		}
		s := m.state()
		checkStateComesBack(t, s)
		b, _ := impl.PutState(s)
		if other, there := seen[string(b)]; there {
			t.Errorf("%v and %v are both %v", s, other, b)
		}
		seen[string(b)] = s
	}
}

func TestCodesOfPutState(t *testing.T) {
	for _, bad := range badStates() {
		if b, code := impl.PutState(bad.state); code != 1 || len(b) != 0 {
			t.Errorf("%s: %d bytes, code %d", bad.why, len(b), code)
		}
	}
	wide := impl.Context{}
	for i := range impl.MaxRuns {
		wide.Runs = append(wide.Runs, impl.Run{Rep: 0, From: 1 + 20000*i, To: 1 + 20000*i})
	}
	tooLong := []impl.State{fullState(t, impl.MaxPayload+1), fullState(t, impl.MaxPayload+50), manyLeaves(0, "n", impl.MaxLeaves), stateOf(wide)}
	for i, s := range tooLong {
		if b, code := impl.PutState(s); code != 2 || len(b) != 0 {
			t.Errorf("too long %d: %d bytes, code %d", i, len(b), code)
		}
	}
	both := fullState(t, impl.MaxPayload+1)
	both.Leaves[len(both.Leaves)-1].Dot.Seq++
	if b, code := impl.PutState(both); code != 1 || len(b) != 0 {
		t.Errorf("too long and not valid: %d bytes, code %d", len(b), code)
	}
	for _, n := range []int{20, impl.MaxPayload - 1, impl.MaxPayload} {
		if b, code := impl.PutState(fullState(t, n)); code != 0 || len(b) != n {
			t.Errorf("%d bytes: %d bytes, code %d", n, len(b), code)
		}
	}
}

func checkStateRefused(t *testing.T, why string, b []byte) {
	t.Helper()
	if s, code := impl.GetState(b); code != 1 || !nothingIn(s) {
		t.Errorf("%s: %v %d", why, s, code)
	}
}

// treesThatAreRefused stand behind a context of the dots 1 to 9 of the replicas 0 and 1.
func treesThatAreRefused() map[string][]byte {
	long := strings.Repeat("n", impl.MaxName+1)
	most := uint64(math.MaxUint64)
	deep := func(times int, last ...any) []byte {
		return append(bytes.Repeat(bytesOf(1, "d", 3), times), bytesOf(last...)...)
	}
	return map[string][]byte{
		"keys descend":                        bytesOf(2, "b", 2, 1, 0, 1, "a", 2, 1, 0, 2),
		"keys by their length":                bytesOf(2, "b", 2, 1, 0, 1, "aa", 2, 1, 0, 2),
		"keys without their case":             bytesOf(2, "a", 2, 1, 0, 1, "B", 2, 1, 0, 2),
		"keys descend in a map":               bytesOf(1, "m", 3, 2, "b", 2, 1, 0, 1, "a", 2, 1, 0, 2),
		"the last of three keys":              bytesOf(3, "a", 2, 1, 0, 1, "c", 2, 1, 0, 2, "b", 2, 1, 0, 3),
		"a register twice":                    bytesOf(2, "a", 1, 1, 0, 1, "", "a", 1, 1, 0, 2, ""),
		"a flag twice":                        bytesOf(2, "a", 2, 1, 0, 1, "a", 2, 1, 0, 2),
		"a map twice":                         bytesOf(2, "a", 3, 1, "b", 2, 1, 0, 1, "a", 3, 1, "c", 2, 1, 0, 2),
		"a flag in front of a register":       bytesOf(2, "a", 2, 1, 0, 1, "a", 1, 1, 0, 2, ""),
		"a map in front of a flag":            bytesOf(2, "a", 3, 1, "b", 2, 1, 0, 1, "a", 2, 1, 0, 2),
		"a map in front of a register":        bytesOf(2, "a", 3, 1, "b", 2, 1, 0, 1, "a", 1, 1, 0, 2, ""),
		"kind 0":                              bytesOf(1, "a", 0, 1, 0, 1),
		"kind 0 with a text":                  bytesOf(1, "a", 0, 1, 0, 1, ""),
		"kind 4":                              bytesOf(1, "a", 4, 1, 0, 1),
		"kind 4 with a text":                  bytesOf(1, "a", 4, 1, 0, 1, ""),
		"kind 255":                            bytesOf(1, "a", []byte{255}, 1, 0, 1),
		"kind 257":                            bytesOf(1, "a", 257, 1, 0, 1, ""),
		"a kind as a varint of two bytes":     bytesOf(1, "a", []byte{0x81, 0}, 1, 0, 1, ""),
		"a map without keys":                  bytesOf(1, "a", 3, 0),
		"a map without keys beside a flag":    bytesOf(2, "a", 2, 1, 0, 1, "a", 3, 0),
		"a map without keys in a map":         bytesOf(1, "a", 3, 1, "b", 3, 0),
		"a register without leaves":           bytesOf(1, "a", 1, 0),
		"a register without leaves in a map":  bytesOf(1, "m", 3, 2, "a", 1, 0, "b", 2, 1, 0, 1),
		"a flag without leaves":               bytesOf(1, "a", 2, 0),
		"a name without bytes":                bytesOf(1, "", 2, 1, 0, 1),
		"a name without bytes in a map":       bytesOf(1, "a", 3, 1, "", 2, 1, 0, 1),
		"a name of one byte too many":         bytesOf(1, long, 2, 1, 0, 1),
		"a map's name of one byte too many":   bytesOf(1, long, 3, 1, "a", 2, 1, 0, 1),
		"a name with the greatest length":     bytesOf(1, most, "a", 2, 1, 0, 1),
		"a value of one byte too many":        bytesOf(1, "a", 1, 1, 0, 1, strings.Repeat("v", impl.MaxText+1)),
		"a value with the greatest length":    bytesOf(1, "a", 1, 1, 0, 1, most),
		"a flag with a value":                 bytesOf(1, "a", 2, 1, 0, 1, "v"),
		"a register without a value":          bytesOf(1, "a", 1, 1, 0, 1),
		"nine names":                          deep(8, 1, "d", 2, 1, 0, 1),
		"nine names to a register":            deep(8, 1, "d", 1, 1, 0, 1, ""),
		"eight names to a map without keys":   deep(8, 0),
		"seven names to a map without keys":   deep(7, 0),
		"ten names":                           deep(9, 1, "d", 2, 1, 0, 1),
		"nothing but maps":                    deep(900),
		"a dot twice in a register":           bytesOf(1, "a", 1, 2, 0, 1, "v", 0, 1, "v"),
		"a dot twice with two values":         bytesOf(1, "a", 1, 2, 0, 1, "v", 0, 1, "w"),
		"a dot twice in a flag":               bytesOf(1, "a", 2, 2, 0, 1, 0, 1),
		"a dot in a register and a flag":      bytesOf(2, "a", 1, 1, 0, 1, "", "a", 2, 1, 0, 1),
		"a dot in two registers":              bytesOf(2, "a", 1, 1, 0, 1, "v", "b", 1, 1, 0, 1, "v"),
		"a dot in two maps":                   bytesOf(2, "a", 3, 1, "x", 2, 1, 0, 1, "b", 3, 1, "x", 2, 1, 0, 1),
		"a dot in a map and behind it":        bytesOf(2, "a", 3, 1, "x", 2, 2, 0, 1, 0, 2, "b", 1, 1, 0, 1, ""),
		"Seqs descend":                        bytesOf(1, "a", 2, 2, 0, 2, 0, 1),
		"Seqs of a register descend":          bytesOf(1, "a", 1, 2, 0, 2, "", 0, 1, ""),
		"Reps descend":                        bytesOf(1, "a", 2, 2, 1, 1, 0, 2),
		"the last of three dots":              bytesOf(1, "a", 2, 3, 0, 1, 0, 3, 0, 2),
		"a dot behind the context":            bytesOf(1, "a", 2, 1, 0, 10),
		"a dot of a replica without runs":     bytesOf(1, "a", 2, 1, 2, 1),
		"a register's dot not in the context": bytesOf(1, "a", 1, 1, 0, 10, "v"),
		"the second dot not in the context":   bytesOf(1, "a", 2, 2, 0, 9, 0, 10),
		"a dot of 0":                          bytesOf(1, "a", 2, 1, 0, 0),
		"a dot of no replica":                 bytesOf(1, "a", 2, 1, 8, 1),
		"a dot of a replica beyond all":       bytesOf(1, "a", 2, 1, uint64(1)<<32, 1),
		"a dot of the greatest replica":       bytesOf(1, "a", 2, 1, most, 1),
		"a dot above MaxSeq":                  bytesOf(1, "a", 2, 1, 0, impl.MaxSeq+1),
		"a dot beyond all":                    bytesOf(1, "a", 2, 1, 0, uint64(1)<<32+1),
		"a dot that wraps to 1":               bytesOf(1, "a", 2, 1, 0, []byte{0x81, 0x80, 0x80, 0x80, 0x80, 0x80, 0x80, 0x80, 0x80, 2}),
		"one key fewer than said":             bytesOf(2, "a", 2, 1, 0, 1),
		"one key more than said":              bytesOf(1, "a", 2, 1, 0, 1, "b", 2, 1, 0, 2),
		"one leaf fewer than said":            bytesOf(1, "a", 2, 2, 0, 1),
		"one leaf more than said":             bytesOf(1, "a", 2, 1, 0, 1, 0, 2),
		"keys without number":                 bytesOf(most),
		"keys without number, one there":      bytesOf(most, "a", 2, 1, 0, 1),
		"leaves without number":               bytesOf(1, "a", 2, most, 0, 1),
		"keys beyond 32 bits":                 bytesOf(uint64(1)<<32+1, "a", 2, 1, 0, 1),
		"leaves beyond 32 bits":               bytesOf(1, "a", 2, uint64(1)<<32+1, 0, 1),
		"no tree":                             {},
		"a tree of no keys and a byte behind": bytesOf(0, 0),
		"a tree twice":                        bytesOf(1, "a", 2, 1, 0, 1, 1, "b", 2, 1, 0, 2),
		"a context in the place of the tree":  bytesOf(1, 0, 1, 0, 0),
	}
}

func TestStateBytesThatAreRefused(t *testing.T) {
	ctx, _ := impl.PutContext(runsOf(0, 1, 9, 1, 1, 9))
	for why, tree := range treesThatAreRefused() {
		checkStateRefused(t, why, slices.Concat(ctx, tree))
	}
	checkStateRefused(t, "no bytes", nil)
	flag := bytesOf(1, "a", 2, 1, 0, 1)
	for why, c := range map[string][]byte{
		"no replica and a dot":      {0},
		"a replica without runs":    {1, 0, 0},
		"replicas descend":          {2, 1, 1, 0, 0, 0, 1, 0, 0},
		"a replica twice":           {2, 0, 1, 0, 0, 0, 1, 1, 0},
		"a replica above the limit": {2, 0, 1, 0, 0, 8, 1, 0, 0},
		"a run above MaxSeq":        bytesOf(1, 0, 1, 0, impl.MaxSeq),
		"too many runs":             slices.Concat(bytesOf(1, 0, impl.MaxRuns+1), make([]byte, 2*(impl.MaxRuns+1))),
	} {
		checkStateRefused(t, "context: "+why, slices.Concat(c, flag))
	}
	for _, bad := range badStates() {
		s := &speller{longer: -1}
		b := s.state(bad.state)
		if !s.cannot && bad.why != "a flag with a value" {
			checkStateRefused(t, bad.why, b)
		}
	}
}

func TestTooManyLeavesInFewBytes(t *testing.T) {
	one := smallDots("a", impl.MaxLeaves+1)
	two := smallDots("a", impl.MaxLeaves+1)
	for i := range two.Leaves[500:] {
		two.Leaves[500+i].Path = names("a/b")
	}
	for _, s := range []impl.State{one, two} {
		b := spelled(s)
		if len(b) > impl.MaxPayload {
			t.Fatalf("%d bytes", len(b))
		}
		checkStateRefused(t, "one leaf too many", b)
	}
	checkStateComesBack(t, smallDots("a", impl.MaxLeaves))
}

func TestStateWithLongerNumbers(t *testing.T) {
	s := stateOf(runsOf(0, 1, 300, 1, 2, 5, 1, 900, 900), regLeaf("a", 0, 2, "hi"), regLeaf("a", 1, 900, ""), flagLeaf("a", 0, 130), regLeaf("a/b/c", 0, 1, strings.Repeat("v", 150)), flagLeaf("b", 1, 2))
	plain := &speller{longer: -1}
	plain.state(s)
	if plain.numbers < 30 {
		t.Fatalf("%d numbers", plain.numbers)
	}
	for i := range plain.numbers {
		longer := &speller{longer: i}
		checkStateRefused(t, fmt.Sprint("number ", i, " one byte longer"), longer.state(s))
	}
	checkStateComesBack(t, s)
}

func TestStateCutOrGrown(t *testing.T) {
	d := &dice{state: 73}
	states := []impl.State{{}, stateOf(runsOf(0, 1, 1), regLeaf("a", 0, 1, "v")), stateOf(runsOf(0, 1, 1), flagLeaf("a/b/c", 0, 1))}
	for range 100 {
		states = append(states, diceState(d))
	}
	for _, s := range states {
		b, _ := impl.PutState(s)
		for i := range b {
			checkStateRefused(t, fmt.Sprint("the first ", i, " bytes"), b[:i:i])
			// what lies behind the end of a list is no part of it
			checkStateRefused(t, fmt.Sprint("the first ", i, " bytes and spare room"), b[:i])
		}
		for _, more := range []string{"\x00", "\x01", "\x80", "\xff", "\x00\x00", "\x01\x01b\x02\x01\x00\x02"} {
			checkStateRefused(t, fmt.Sprintf("%q behind the end", more), slices.Concat(b, []byte(more)))
		}
		checkStateRefused(t, "twice", slices.Concat(b, b))
	}
}

func TestStateBytesAtMaxPayload(t *testing.T) {
	s := fullState(t, impl.MaxPayload)
	b := spelled(s)
	if back, code := impl.GetState(b); code != 0 || !sameState(back, s) {
		t.Errorf("%d bytes: %d", len(b), code)
	}
	checkStateRefused(t, "one byte behind the last", append(b, 0))
	for _, n := range []int{impl.MaxPayload + 1, impl.MaxPayload + 2, 2 * impl.MaxPayload} {
		if !impl.StateOk(fullState(t, n)) {
			t.Errorf("the state of %d bytes is not valid", n)
		}
		checkStateRefused(t, fmt.Sprint(n, " bytes"), spelled(fullState(t, n)))
	}
}

func checkAcceptsOnlyWritten(t *testing.T, b []byte) bool {
	t.Helper()
	s, code := impl.GetState(b)
	if code != 0 {
		if code != 1 || !nothingIn(s) {
			t.Errorf("%v: %v %d", b, s, code)
		}
		return false
	}
	again, code := impl.PutState(s)
	if code != 0 || !bytes.Equal(again, b) || !impl.StateOk(s) {
		t.Errorf("%v is accepted as %v, which is written as %v %d", b, s, again, code)
	}
	return true
}

// All short trees of a few bytes behind a context of two dots.
func TestAllShortTrees(t *testing.T) {
	letters := []byte{0, 1, 2, 3, 'a', 0x80}
	front := []byte{1, 0, 1, 0, 1}
	b := slices.Clone(front)
	accepted := 0
	var grow func(left int)
	grow = func(left int) {
		if checkAcceptsOnlyWritten(t, b) {
			accepted++
		}
		if left == 0 {
			return
		}
		for _, x := range letters {
			b = append(b, x)
			grow(left - 1)
			b = b[:len(b)-1]
		}
	}
	grow(8)
	// the tree of no keys; with either dot, a flag or a register with an empty value and a name of one byte, or a flag and a name of two; no more has room
	if n := len(letters); accepted != 1+2*(n+n+n*n) {
		t.Errorf("%d trees are accepted", accepted)
	}
}

func TestOnlyBytesOfStatesAreAccepted(t *testing.T) {
	d := &dice{state: 74}
	accepted := 0
	const tries = 60000
	for range tries {
		b, _ := impl.PutState(diceState(d))
		for range 1 + d.below(3) {
			if len(b) > 0 {
				b = edited(d, b)
			}
		}
		if checkAcceptsOnlyWritten(t, b) {
			accepted++
		}
	}
	if accepted < tries/100 || accepted > tries*99/100 {
		t.Errorf("%d of %d are accepted: the edits say little", accepted, tries)
	}
}

func TestAnyBytesAreAnswered(t *testing.T) {
	d := &dice{state: 75}
	for range 20000 {
		b := make([]byte, d.below(40))
		for i := range b {
			b[i] = byte(d.below(256)) >> d.below(9)
		}
		checkAcceptsOnlyWritten(t, b)
	}
}

func TestStateBytesAreNewMemory(t *testing.T) {
	s := roomyState(stateOf(runsOf(0, 1, 9, 2, 1, 9), regLeaf("a", 0, 1, "v"), regLeaf("a", 0, 2, "w"), flagLeaf("a/b", 2, 3), flagLeaf("a/b/c", 2, 4), regLeaf("x/y", 0, 3, "z")))
	before := asIs(s)
	b, _ := impl.PutState(s)
	again, _ := impl.PutState(s)
	kept := string(b)
	for i := range again[:cap(again)] {
		again[:cap(again)][i] = 7
	}
	if asIs(s) != before || string(b) != kept {
		t.Errorf("PutState wrote into its argument, or gave the same memory twice")
	}
	laid := append(make([]byte, 0, len(b)+9), b...)
	one, _ := impl.GetState(laid)
	two, _ := impl.GetState(laid)
	if string(laid[:cap(laid)]) != kept+strings.Repeat("\x00", cap(laid)-len(laid)) {
		t.Errorf("GetState wrote into its argument")
	}
	for i := range laid {
		laid[i] = 'Q'
	}
	if !sameState(one, s) || !sameState(two, s) {
		t.Errorf("the state goes with the bytes: %v", one)
	}
	all := &lists{}
	for _, x := range []impl.State{s, one, two} {
		all.addState(x)
	}
	all.checkApart(t, "GetState")
}
