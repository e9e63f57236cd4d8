package tests

import (
	"fmt"
	"math"
	"strings"
	"testing"

	"loop.example/s02772/impl"
)

func mustDo(t *testing.T, r impl.Replica, op impl.Op) impl.Replica {
	t.Helper()
	next, code := impl.Do(r, op)
	if code != 0 {
		t.Fatalf("%v of replica %d: code %d", op, r.Id, code)
	}
	return next
}

func mustFlush(t *testing.T, r impl.Replica) (impl.Replica, impl.Frame) {
	t.Helper()
	next, f, ok := impl.Flush(r)
	if !ok {
		t.Fatalf("replica %d has nothing to flush", r.Id)
	}
	return next, f
}

func mustHandle(t *testing.T, r impl.Replica, f impl.Frame) impl.Replica {
	t.Helper()
	next, replies, code := impl.Handle(r, f)
	if code != 0 || len(replies) != 0 {
		t.Fatalf("replica %d: code %d, %d replies", r.Id, code, len(replies))
	}
	return next
}

// checkKept looks at what holds after any call that got a valid replica.
func checkKept(t *testing.T, why string, was impl.Replica, is impl.Replica, code int) {
	t.Helper()
	if code != 0 && !sameReplica(is, was) {
		t.Errorf("%s: code %d, and the replica is another", why, code)
	}
	if is.Id != was.Id || !impl.ReplicaOk(is) {
		t.Errorf("%s: the replica is not valid any more", why)
	}
	if !impl.AtMost(was.State, is.State) {
		t.Errorf("%s: State went down", why)
	}
}

func checkDoCode(t *testing.T, why string, r impl.Replica, op impl.Op, want int) {
	t.Helper()
	if !impl.ReplicaOk(r) {
		t.Fatalf("%s: the replica is not valid", why)
	}
	next, code := impl.Do(r, op)
	if code != want {
		t.Errorf("%s, Kind %d: code %d, not %d", why, op.Kind, code, want)
	}
	checkKept(t, fmt.Sprint(why, ", Kind ", op.Kind), r, next, code)
}

// checkDo holds a change against the sets.
func checkDo(t *testing.T, r impl.Replica, op impl.Op) impl.Replica {
	t.Helper()
	want, wantCode := modelOfDo(r, op)
	next, code := impl.Do(r, op)
	if code != wantCode || !sameReplica(next, want) {
		t.Errorf("%v of %v: %v %d, not %v %d", op, r, next, code, want, wantCode)
	}
	checkKept(t, fmt.Sprint("op ", op), r, next, code)
	return next
}

func TestIdsOfReplicas(t *testing.T) {
	for id := range impl.MaxReps {
		r, ok := impl.NewReplica(id)
		if !ok || r.Id != id || !nothingIn(r.State) || !nothingIn(r.Delta) || !impl.ReplicaOk(r) {
			t.Errorf("replica %d: %v %v", id, r, ok)
		}
	}
	for _, id := range []int{-1, -2, impl.MaxReps, impl.MaxReps + 1, 1 << 32, math.MinInt, math.MaxInt} {
		if r, ok := impl.NewReplica(id); ok || !sameReplica(r, impl.Replica{}) {
			t.Errorf("replica %d: %v %v", id, r, ok)
		}
		if impl.ReplicaOk(impl.Replica{Id: id}) {
			t.Errorf("replica %d is valid", id)
		}
	}
}

func TestReplicasAtTheLimits(t *testing.T) {
	states := append(statesAtTheLimits(t), wideRuns(impl.MaxRuns-1))
	for i, state := range states {
		for k, delta := range states {
			r := replicaOf(k%impl.MaxReps, state, delta)
			if !impl.ReplicaOk(r) {
				t.Errorf("states %d and %d are not valid", i, k)
			}
		}
	}
}

func TestReplicasThatAreNotValid(t *testing.T) {
	frames := []impl.Frame{{}, helloFrame(impl.State{}), stateFrame(impl.FrameWhole, impl.State{}), stateFrame(impl.FrameDelta, impl.State{}), frameOf(4, ""), frameOf(1, "short"), frameOf(2, "")}
	for _, bad := range badReplicas(t) {
		if impl.ReplicaOk(bad.replica) {
			t.Errorf("%s: valid", bad.why)
		}
		for _, kind := range allOps() {
			for _, op := range []impl.Op{opOf(kind, "a", ""), opOf(kind, "", ""), opOf(kind, "a", "v"), opOf(kind+4, "", strings.Repeat("v", impl.MaxText+1))} {
				if next, code := impl.Do(bad.replica, op); code != 1 || !sameReplica(next, bad.replica) {
					t.Errorf("%s: Do of %v has code %d", bad.why, op, code)
				}
			}
		}
		for i, f := range frames {
			if next, replies, code := impl.Handle(bad.replica, f); code != 1 || len(replies) != 0 || !sameReplica(next, bad.replica) {
				t.Errorf("%s: frame %d has code %d and %d replies", bad.why, i, code, len(replies))
			}
		}
		if next, f, ok := impl.Flush(bad.replica); ok || !nothingInFrame(f) || !sameReplica(next, bad.replica) {
			t.Errorf("%s: Flush gives %v %v", bad.why, f, ok)
		}
		if f, ok := impl.Hello(bad.replica); ok || !nothingInFrame(f) {
			t.Errorf("%s: Hello gives %v %v", bad.why, f, ok)
		}
		if f, ok := impl.Whole(bad.replica); ok || !nothingInFrame(f) {
			t.Errorf("%s: Whole gives %v %v", bad.why, f, ok)
		}
	}
}

func TestChangesOfReplicas(t *testing.T) {
	d := &dice{state: 101}
	for range 1500 {
		checkDo(t, diceReplica(d), diceOp(d))
	}
	for range 300 {
		checkDo(t, diceFullReplica(t, d), diceOp(d))
	}
}

func TestWhatAChangeDoes(t *testing.T) {
	s := stateOf(runsOf(0, 1, 9, 1, 1, 3), regLeaf("m", 0, 3, "top"), flagLeaf("m", 0, 4), regLeaf("m/a", 1, 2, "y"), flagLeaf("m/a", 0, 7))
	for _, c := range []struct {
		why   string
		op    impl.Op
		left  int
		delta impl.State
	}{
		{"a register", opOf(impl.OpPut, "m", "new"), 4, stateOf(runsOf(0, 3, 3, 1, 4, 4), regLeaf("m", 1, 4, "new"))},
		{"a register without value", opOf(impl.OpPut, "q", ""), 5, stateOf(runsOf(1, 4, 4), regLeaf("q", 1, 4, ""))},
		{"a flag on", opOf(impl.OpOn, "m", ""), 4, stateOf(runsOf(0, 4, 4, 1, 4, 4), flagLeaf("m", 1, 4))},
		{"a flag off", opOf(impl.OpOff, "m", ""), 3, stateOf(runsOf(0, 4, 4))},
		{"a flag off that is not on", opOf(impl.OpOff, "q", ""), 4, impl.State{}},
		{"all of a map", opOf(impl.OpRemove, "m", ""), 0, stateOf(runsOf(0, 3, 4, 0, 7, 7, 1, 2, 2))},
		{"what is not there", opOf(impl.OpRemove, "q/r", ""), 4, impl.State{}},
	} {
		next := checkDo(t, replicaOf(1, s, impl.State{}), c.op)
		if !sameState(next.Delta, c.delta) || len(next.State.Leaves) != c.left {
			t.Errorf("%s: %v, %d leaves left", c.why, next.Delta, len(next.State.Leaves))
		}
	}
}

// faulty has, for each code that is asked for, the fault that leads to it.
func faulty(kind int, has map[int]bool) (impl.Replica, impl.Op) {
	r := replicaOf(1, stateOf(runsOf(1, 1, 2), regLeaf("a", 1, 1, "v"), flagLeaf("a", 1, 2)), impl.State{})
	op := opOf(kind, "a", "")
	if has[1] {
		r.Id = impl.MaxReps
	}
	if has[5] {
		op.Kind += 4
	}
	if has[2] {
		op.Path = nil
	}
	if has[3] {
		r.State.Ctx = runsOf(1, 1, impl.MaxSeq)
	}
	if has[4] {
		r.Delta.Ctx = lonely(2, 1, impl.MaxRuns)
	}
	return r, op
}

func TestOrderOfCodesOfDo(t *testing.T) {
	order := []int{1, 5, 2, 3, 4}
	for _, kind := range allOps() {
		for faults := range 1 << len(order) {
			has := map[int]bool{}
			want := 0
			for i, code := range order {
				has[code] = faults>>i&1 == 1
				needsDot := kind == impl.OpPut || kind == impl.OpOn
				if want == 0 && has[code] && (code != 3 || needsDot) {
					want = code
				}
			}
			r, op := faulty(kind, has)
			if next, code := impl.Do(r, op); code != want || code != 0 && !sameReplica(next, r) {
				t.Errorf("Kind %d with the faults %v: code %d, not %d", kind, has, code, want)
			}
		}
	}
}

func TestOpsThatAreNone(t *testing.T) {
	replicas := []impl.Replica{{}, replicaOf(0, stateOf(runsOf(0, 1, impl.MaxSeq), regLeaf("a", 0, 1, "v")), stateOf(lonely(2, 1, impl.MaxRuns))), replicaOf(0, fullState(t, impl.MaxPayload), fullState(t, impl.MaxPayload))}
	for i, r := range replicas {
		for _, bad := range badOps() {
			checkDoCode(t, fmt.Sprint(bad.why, ", replica ", i), r, bad.op, 5)
		}
	}
	for _, value := range []string{"", "v", "\x00", strings.Repeat("v", impl.MaxText)} {
		checkDoCode(t, "a Value of OpPut", impl.Replica{}, opOf(impl.OpPut, "a", value), 0)
	}
	if impl.OpPut != 1 || impl.OpOn != 2 || impl.OpOff != 3 || impl.OpRemove != 4 {
		t.Errorf("the kinds are others")
	}
}

func TestPathsAndValuesOfOps(t *testing.T) {
	name := strings.Repeat("n", impl.MaxName)
	deep := strings.Repeat(name+"/", impl.MaxDepth-1) + name
	for _, kind := range allOps() {
		for _, bad := range append(badPaths(), badPath{"no name", nil}, badPath{"no name, as an empty list", []string{}}) {
			checkDoCode(t, bad.why, impl.Replica{}, impl.Op{Kind: kind, Path: bad.path}, 2)
			checkDoCode(t, bad.why+", and no room", replicaOf(0, fullState(t, impl.MaxPayload), impl.State{}), impl.Op{Kind: kind, Path: bad.path}, 2)
		}
		checkDoCode(t, "the longest path", impl.Replica{}, opOf(kind, deep, ""), 0)
		checkDoCode(t, "a path of odd bytes", impl.Replica{}, impl.Op{Kind: kind, Path: []string{"\x00", "/", " \n\xff"}}, 0)
	}
	for i, r := range []impl.Replica{{}, replicaOf(0, stateOf(runsOf(0, 1, impl.MaxSeq)), impl.State{}), replicaOf(0, fullState(t, impl.MaxPayload), impl.State{})} {
		checkDoCode(t, fmt.Sprint("a value of one byte too many, replica ", i), r, opOf(impl.OpPut, "a", strings.Repeat("v", impl.MaxText+1)), 2)
	}
}

func TestReplicasWithoutNextDot(t *testing.T) {
	for id := range impl.MaxReps {
		other := (id + 1) % impl.MaxReps
		top := stateOf(runsOf(id, impl.MaxSeq, impl.MaxSeq), flagLeaf("a", id, impl.MaxSeq))
		for _, kind := range []int{impl.OpPut, impl.OpOn} {
			checkDoCode(t, "no NextDot", replicaOf(id, top, impl.State{}), opOf(kind, "a", ""), 3)
			checkDoCode(t, "no NextDot of another", replicaOf(other, top, impl.State{}), opOf(kind, "a", ""), 0)
			checkDoCode(t, "the Delta has all dots", replicaOf(id, impl.State{}, top), opOf(kind, "a", ""), 0)
			checkDoCode(t, "the last dot", replicaOf(id, stateOf(runsOf(id, 1, impl.MaxSeq-1)), impl.State{}), opOf(kind, "a", ""), 0)
		}
		for _, kind := range []int{impl.OpOff, impl.OpRemove} {
			checkDoCode(t, "no NextDot is needed", replicaOf(id, top, impl.State{}), opOf(kind, "a", ""), 0)
		}
	}
}

// bytesWith is how many bytes a state has after the change, by the test's own writer.
func bytesWith(s impl.State, id int, op impl.Op) int {
	next, _ := changeOf(id, op).model(modelOf(s))
	return len(spelled(next.state()))
}

func TestNewStateAtMaxPayload(t *testing.T) {
	for _, op := range []impl.Op{opOf(impl.OpPut, "z", "value"), opOf(impl.OpPut, "mA/b", ""), opOf(impl.OpOn, "mA/a", ""), opOf(impl.OpOn, "z/y/x", "")} {
		more := bytesWith(fullState(t, 3900), 1, op) - 3900
		at := replicaOf(1, fullState(t, impl.MaxPayload-more), impl.State{})
		above := replicaOf(1, fullState(t, impl.MaxPayload-more+1), impl.State{})
		checkDoCode(t, "State at MaxPayload", at, op, 0)
		checkDoCode(t, "State one byte above", above, op, 4)
		if next := checkDo(t, at, op); len(spelled(next.State)) != impl.MaxPayload {
			t.Errorf("%v: %d bytes", op, len(spelled(next.State)))
		}
		checkDo(t, above, op)
	}
	full := replicaOf(1, fullState(t, impl.MaxPayload), impl.State{})
	checkDoCode(t, "a full State", full, opOf(impl.OpPut, "mA/a", strings.Repeat("v", 100)), 4)
	checkDoCode(t, "a full State with a smaller value", full, opOf(impl.OpPut, "mA/a", ""), 0)
	checkDoCode(t, "a full State", full, opOf(impl.OpOff, "mA/a", ""), 0)
	checkDoCode(t, "a full State", full, opOf(impl.OpRemove, "mA", ""), 0)
}

func TestNewDeltaAtMaxPayload(t *testing.T) {
	s := stateOf(runsOf(2, 1, 2), regLeaf("z", 2, 1, "v"), flagLeaf("z", 2, 2))
	for _, op := range []impl.Op{opOf(impl.OpPut, "z", "value"), opOf(impl.OpOn, "z", ""), opOf(impl.OpOff, "z", ""), opOf(impl.OpRemove, "z", "")} {
		_, made := changeOf(1, op).model(modelOf(s))
		more := len(spelled(joinOfModels(modelOf(fullState(t, 3900)), made).state())) - 3900
		at := replicaOf(1, s, fullState(t, impl.MaxPayload-more))
		above := replicaOf(1, s, fullState(t, impl.MaxPayload-more+1))
		checkDoCode(t, "Delta at MaxPayload", at, op, 0)
		checkDoCode(t, "Delta one byte above", above, op, 4)
		if next := checkDo(t, at, op); len(spelled(next.Delta)) != impl.MaxPayload {
			t.Errorf("%v: %d bytes", op, len(spelled(next.Delta)))
		}
		checkDo(t, above, op)
	}
	full := replicaOf(1, s, fullState(t, impl.MaxPayload))
	checkDoCode(t, "a full Delta, and nothing to take back", full, opOf(impl.OpOff, "q", ""), 0)
	checkDoCode(t, "a full Delta, and nothing to take back", full, opOf(impl.OpRemove, "q", ""), 0)
}

func TestNewStatesThatAreNotThere(t *testing.T) {
	most, almost := smallDots("a", impl.MaxLeaves), smallDots("a", impl.MaxLeaves-1)
	// the new dot is behind all others of replica 7
	for _, kind := range []int{impl.OpPut, impl.OpOn} {
		checkDoCode(t, "one leaf too many in State", replicaOf(7, most, impl.State{}), opOf(kind, "b", ""), 4)
		checkDoCode(t, "just MaxLeaves in State", replicaOf(7, almost, impl.State{}), opOf(kind, "b", ""), 0)
		checkDoCode(t, "one leaf too many in Delta", replicaOf(7, stateOf(runsOf(7, 1, 500)), most), opOf(kind, "b", ""), 4)
		checkDoCode(t, "just MaxLeaves in Delta", replicaOf(7, stateOf(runsOf(7, 1, 500)), almost), opOf(kind, "b", ""), 0)
		checkDoCode(t, "a dot that Delta has", replicaOf(7, impl.State{}, most), opOf(kind, "b", ""), 0)
		checkDoCode(t, "one run too many in State", replicaOf(0, stateOf(lonely(1, 1, impl.MaxRuns)), impl.State{}), opOf(kind, "b", ""), 4)
		checkDoCode(t, "just MaxRuns in State", replicaOf(0, stateOf(lonely(1, 1, impl.MaxRuns-1)), impl.State{}), opOf(kind, "b", ""), 0)
		checkDoCode(t, "one run too many in Delta", replicaOf(0, impl.State{}, stateOf(lonely(1, 1, impl.MaxRuns))), opOf(kind, "b", ""), 4)
		checkDoCode(t, "just MaxRuns in Delta", replicaOf(0, impl.State{}, stateOf(lonely(1, 1, impl.MaxRuns-1))), opOf(kind, "b", ""), 0)
		checkDoCode(t, "no run more in Delta", replicaOf(1, impl.State{}, stateOf(lonely(1, 1, impl.MaxRuns))), opOf(kind, "b", ""), 0)
	}
	s := stateOf(runsOf(2, 1, 1), flagLeaf("a", 2, 1))
	for _, kind := range []int{impl.OpOff, impl.OpRemove} {
		checkDoCode(t, "one run too many in Delta", replicaOf(0, s, stateOf(lonely(1, 1, impl.MaxRuns))), opOf(kind, "a", ""), 4)
		checkDoCode(t, "just MaxRuns in Delta", replicaOf(0, s, stateOf(lonely(1, 1, impl.MaxRuns-1))), opOf(kind, "a", ""), 0)
		checkDoCode(t, "nothing new for Delta", replicaOf(0, s, stateOf(lonely(1, 1, impl.MaxRuns))), opOf(kind, "b", ""), 0)
	}
}

// A flag of 1000 leaves whose dots don't touch is in few bytes, but the delta that takes them all back would have a run too many.
func TestADeltaOfTooManyRuns(t *testing.T) {
	s := impl.State{}
	for rep := range 2 {
		for i := range impl.MaxLeaves / 2 {
			s.Leaves = append(s.Leaves, flagLeaf("a", rep, 1+2*i))
		}
		s.Ctx.Runs = append(s.Ctx.Runs, impl.Run{Rep: rep, From: 1, To: impl.MaxLeaves})
	}
	r := replicaOf(3, s, impl.State{})
	checkDoCode(t, "all taken back and a run apart", r, opOf(impl.OpOn, "a", ""), 4)
	checkDoCode(t, "all taken back", r, opOf(impl.OpOff, "a", ""), 0)
	checkDoCode(t, "all taken back", r, opOf(impl.OpRemove, "a", ""), 0)
}

func checkFlush(t *testing.T, why string, r impl.Replica) impl.Replica {
	t.Helper()
	next, f, ok := impl.Flush(r)
	if ok == nothingIn(r.Delta) {
		t.Errorf("%s: Flush says %v with the Delta %v", why, ok, r.Delta)
	}
	if !ok && (!nothingInFrame(f) || !sameReplica(next, r)) {
		t.Errorf("%s: nothing to flush gives %v", why, f)
	}
	if ok && (!sameFrame(f, stateFrame(impl.FrameDelta, r.Delta)) || !sameReplica(next, replicaOf(r.Id, r.State, impl.State{}))) {
		t.Errorf("%s: %v and %v", why, f, next)
	}
	checkKept(t, why, r, next, 0)
	return next
}

func TestFlush(t *testing.T) {
	states := append(statesAtTheLimits(t), wideRuns(impl.MaxRuns-1), stateOf(runsOf(0, 1, 1)), stateOf(runsOf(7, 5, 5)))
	for i, delta := range states {
		checkFlush(t, fmt.Sprint("limit ", i), replicaOf(i%impl.MaxReps, states[(i+1)%len(states)], delta))
		checkFlush(t, fmt.Sprint("no Delta, ", i), replicaOf(i%impl.MaxReps, delta, impl.State{}))
		checkFlush(t, fmt.Sprint("empty lists, ", i), replicaOf(i%impl.MaxReps, delta, impl.State{Leaves: []impl.Leaf{}, Ctx: impl.Context{Runs: []impl.Run{}}}))
	}
	d := &dice{state: 102}
	for i := range 300 {
		r := checkFlush(t, fmt.Sprint("replica ", i), diceReplica(d))
		if _, f, ok := impl.Flush(r); ok || !nothingInFrame(f) {
			t.Errorf("flushed twice: %v", f)
		}
	}
}

// Taking back what another one wrote leaves runs and no leaves in Delta, and these are to be sent.
func TestFlushOfRunsAlone(t *testing.T) {
	wrote, sent := mustFlush(t, mustDo(t, impl.Replica{Id: 4}, opOf(impl.OpOn, "f", "")))
	for _, kind := range []int{impl.OpOff, impl.OpRemove} {
		r := mustDo(t, mustHandle(t, impl.Replica{Id: 5}, sent), opOf(kind, "f", ""))
		if !sameState(r.Delta, stateOf(runsOf(4, 1, 1))) || len(r.State.Leaves) != 0 {
			t.Fatalf("%v", r)
		}
		checkFlush(t, "runs alone", r)
		_, f := mustFlush(t, r)
		if back := mustHandle(t, wrote, f); !sameState(back.State, r.State) {
			t.Errorf("%v and %v", back.State, r.State)
		}
	}
	r := mustDo(t, mustDo(t, impl.Replica{Id: 6}, opOf(impl.OpPut, "a", "v")), opOf(impl.OpRemove, "a", ""))
	if !sameState(r.Delta, stateOf(runsOf(6, 1, 1))) {
		t.Errorf("%v", r.Delta)
	}
	checkFlush(t, "written and taken back", r)
}

// joinOfAll goes by the sets, so that it leans on nothing of the program.
func joinOfAll(deltas []model) impl.State {
	all := newModel()
	for _, m := range deltas {
		all = joinOfModels(m, all)
	}
	return all.state()
}

// A replica changes, flushes and takes frames in at will; a frame that comes in never shows in Delta.
func TestWhatStaysInDelta(t *testing.T) {
	d := &dice{state: 103}
	for range 60 {
		r := impl.Replica{Id: d.below(impl.MaxReps)}
		var deltas []model
		for range 30 {
			switch d.below(6) {
			case 0:
				r = checkFlush(t, "on the way", r)
				deltas = nil
			case 1:
				r = checkTaking(t, r, diceState(d))
			case 2:
				next, _, code := impl.Handle(r, helloFrame(diceState(d)))
				checkKept(t, "hello", r, next, code)
				r = next
			case 3:
				bad := badOps()[d.below(len(badOps()))]
				checkDoCode(t, bad.why, r, bad.op, 5)
			default:
				op := diceOp(d)
				_, made := changeOf(r.Id, op).model(modelOf(r.State))
				deltas = append(deltas, made)
				r = checkDo(t, r, op)
			}
			if want := joinOfAll(deltas); !sameState(r.Delta, want) {
				t.Fatalf("Delta is %v, not %v", r.Delta, want)
			}
		}
	}
}

// Frames of all kinds, whole and edited, are taken in by replicas with and without room.
func TestReplicasStayValidAndGoUp(t *testing.T) {
	d := &dice{state: 104}
	codes := map[int]int{}
	for i := range 1500 {
		r := diceReplica(d)
		if d.below(3) == 0 {
			r = diceFullReplica(t, d)
		}
		f := stateFrame(1+d.below(3), diceState(d))
		if d.below(2) == 0 {
			f.Payload = edited(d, f.Payload)
		}
		next, replies, code := impl.Handle(r, f)
		checkKept(t, fmt.Sprint("frame ", i), r, next, code)
		if !sameState(next.Delta, r.Delta) || code != 0 && len(replies) != 0 {
			t.Errorf("frame %d: code %d, %d replies", i, code, len(replies))
		}
		codes[code]++
	}
	if codes[0] == 0 || codes[2] == 0 || codes[3] == 0 || codes[1] != 0 {
		t.Errorf("the codes are %v", codes)
	}
}

func checkDoApart(t *testing.T, why string, r impl.Replica, op impl.Op) {
	t.Helper()
	r = roomyReplica(r)
	op.Path = roomyPath(op.Path)
	kept, keptPath := replicaAsIs(r), pathAsIs(op.Path)
	next, _ := impl.Do(r, op)
	if replicaAsIs(r) != kept || pathAsIs(op.Path) != keptPath {
		t.Errorf("%s: Do changed an argument", why)
	}
	all := lists{}
	all.addReplica(next)
	all.addReplica(r)
	all.addPath(op.Path)
	all.checkApart(t, "Do, "+why)
}

func checkFlushApart(t *testing.T, why string, r impl.Replica) {
	t.Helper()
	r = roomyReplica(r)
	kept := replicaAsIs(r)
	next, one, _ := impl.Flush(r)
	again, two, _ := impl.Flush(r)
	if replicaAsIs(r) != kept {
		t.Errorf("%s: Flush changed its argument", why)
	}
	checkBytesApart(t, "Flush, "+why, one.Payload, two.Payload)
	all := lists{}
	all.addReplica(next)
	all.addReplica(again)
	all.addReplica(r)
	all.checkApart(t, "Flush, "+why)
}

func TestChangedReplicasAreNewMemory(t *testing.T) {
	d := &dice{state: 105}
	for range 200 {
		r := diceReplica(d)
		checkDoApart(t, "code 0", r, diceOp(d))
		checkDoApart(t, "code 5", r, badOps()[d.below(len(badOps()))].op)
		checkDoApart(t, "code 2", r, opOf(impl.OpPut, "a//b", "v"))
		checkDoApart(t, "code 4", diceFullReplica(t, d), opOf(impl.OpPut, "a", strings.Repeat("v", 100)))
		checkFlushApart(t, "Delta", r)
		checkFlushApart(t, "no Delta", replicaOf(r.Id, r.State, impl.State{}))
	}
	for _, bad := range badReplicas(t) {
		checkDoApart(t, bad.why, bad.replica, opOf(impl.OpPut, "a", "v"))
		checkFlushApart(t, bad.why, bad.replica)
	}
	checkDoApart(t, "empty", impl.Replica{}, opOf(impl.OpRemove, "a", ""))
	checkFlushApart(t, "empty", impl.Replica{})
}
