package tests

import (
	"encoding/binary"
	"fmt"
	"hash/fnv"
	"math"
	"slices"
	"strings"
	"testing"

	"loop.example/s02772/impl"
)

func replicaOf(id int, state impl.State, delta impl.State) impl.Replica {
	return impl.Replica{Id: id, State: state, Delta: delta}
}

func sameReplica(a impl.Replica, b impl.Replica) bool {
	return a.Id == b.Id && sameState(a.State, b.State) && sameState(a.Delta, b.Delta)
}

func nothingInFrame(f impl.Frame) bool {
	return f.Kind == 0 && len(f.Payload) == 0
}

func opOf(kind int, path string, value string) impl.Op {
	return impl.Op{Kind: kind, Path: names(path), Value: value}
}

func allOps() []int {
	return []int{impl.OpPut, impl.OpOn, impl.OpOff, impl.OpRemove}
}

func diceOp(d *dice) impl.Op {
	op := opOf(1+d.below(4), dicePlace(d), "")
	if op.Kind == impl.OpPut {
		op.Value = diceValue(d)
	}
	return op
}

func changeOf(id int, op impl.Op) change {
	kinds := map[int]changeKind{impl.OpPut: write, impl.OpOn: flagOn, impl.OpOff: flagOff, impl.OpRemove: remove}
	return change{kinds[op.Kind], id, op.Path, op.Value}
}

// isFit asks the test's own writer, of states that a model gave.
func isFit(s impl.State) bool {
	return len(s.Leaves) <= impl.MaxLeaves && len(s.Ctx.Runs) <= impl.MaxRuns && len(spelled(s)) <= impl.MaxPayload
}

// modelOfDo is what a change of a valid replica comes to, by the sets; only of an op of a right form, and where its replica has a NextDot.
func modelOfDo(r impl.Replica, op impl.Op) (impl.Replica, int) {
	next, made := changeOf(r.Id, op).model(modelOf(r.State))
	delta := joinOfModels(modelOf(r.Delta), made)
	if !isFit(next.state()) || !isFit(delta.state()) {
		return r, 4
	}
	return replicaOf(r.Id, next.state(), delta.state()), 0
}

// modelOfTaking is what a valid replica comes to that takes a state in.
func modelOfTaking(r impl.Replica, s impl.State) (impl.Replica, int) {
	joined := joinOfModels(modelOf(r.State), modelOf(s)).state()
	if !isFit(joined) {
		return r, 3
	}
	return replicaOf(r.Id, joined, r.Delta), 0
}

// stateFrame has the bytes that the test's own writer gives.
func stateFrame(kind int, s impl.State) impl.Frame {
	return impl.Frame{Kind: kind, Payload: spelled(s)}
}

func helloFrame(s impl.State) impl.Frame {
	sum := fnv.New64a()
	sum.Write(spelled(s))
	return impl.Frame{Kind: impl.FrameHello, Payload: binary.BigEndian.AppendUint64(nil, sum.Sum64())}
}

// diceReplica has states that need not have come from changes, and a Delta that need not be in the State.
func diceReplica(d *dice) impl.Replica {
	return replicaOf([]int{0, 1, 2, impl.MaxReps - 1}[d.below(4)], diceState(d), diceState(d))
}

// diceFullReplica has some few bytes of room in one of its states.
func diceFullReplica(t *testing.T, d *dice) impl.Replica {
	t.Helper()
	r := diceReplica(d)
	full := fullState(t, impl.MaxPayload-d.below(40))
	if d.below(2) == 0 {
		r.State = full
	} else {
		r.Delta = full
	}
	return r
}

// wideRuns is a state without leaves whose runs have four bytes each, all but the first: with 999 of them it has just MaxPayload bytes.
func wideRuns(count int) impl.State {
	s := impl.State{}
	for i := range count {
		s.Ctx.Runs = append(s.Ctx.Runs, impl.Run{Rep: 1, From: 1 + 1000*i, To: 500 + 1000*i})
	}
	return s
}

// unfitStates are valid and have more than MaxPayload bytes.
func unfitStates(t *testing.T) []impl.State {
	t.Helper()
	return []impl.State{
		fullState(t, impl.MaxPayload+1),
		fullState(t, 2*impl.MaxPayload-500),
		manyLeaves(0, "n", impl.MaxLeaves),
		wideRuns(impl.MaxRuns),
	}
}

type badReplica struct {
	why     string
	replica impl.Replica
}

func badReplicas(t *testing.T) []badReplica {
	t.Helper()
	good := stateOf(runsOf(0, 1, 2), regLeaf("a", 0, 1, "v"))
	var bad []badReplica
	for _, id := range []int{-1, impl.MaxReps, math.MinInt, math.MaxInt} {
		bad = append(bad, badReplica{fmt.Sprint("Id ", id), replicaOf(id, good, good)}, badReplica{fmt.Sprint("empty, Id ", id), impl.Replica{Id: id}})
	}
	for _, b := range badStates() {
		bad = append(bad, badReplica{"State: " + b.why, replicaOf(0, b.state, good)}, badReplica{"Delta: " + b.why, replicaOf(7, good, b.state)})
	}
	for i, s := range unfitStates(t) {
		bad = append(bad, badReplica{fmt.Sprint("State not fit, ", i), replicaOf(0, s, good)}, badReplica{fmt.Sprint("Delta not fit, ", i), replicaOf(7, good, s)},
			badReplica{fmt.Sprint("Delta not fit, no State, ", i), replicaOf(7, impl.State{}, s)})
	}
	return append(bad, badReplica{"all of it", replicaOf(8, badStates()[0].state, fullState(t, impl.MaxPayload+1))})
}

type badOp struct {
	why string
	op  impl.Op
}

// badOps have code 5, whatever else is wrong with them.
func badOps() []badOp {
	var bad []badOp
	long := strings.Repeat("v", impl.MaxText+1)
	for _, kind := range []int{0, 5, -1, 6, 257, 1<<32 + 1, math.MinInt, math.MaxInt} {
		bad = append(bad, badOp{fmt.Sprint("Kind ", kind), opOf(kind, "a", "")}, badOp{fmt.Sprint("Kind and Value ", kind), opOf(kind, "a", "v")},
			badOp{fmt.Sprint("Kind and path ", kind), opOf(kind, "", "")}, badOp{fmt.Sprint("Kind and all else ", kind), opOf(kind, "a//", long)})
	}
	for _, kind := range []int{impl.OpOn, impl.OpOff, impl.OpRemove} {
		bad = append(bad, badOp{fmt.Sprint("a Value with Kind ", kind), opOf(kind, "a", "v")}, badOp{fmt.Sprint("a Value of a 0 with Kind ", kind), opOf(kind, "a", "\x00")},
			badOp{fmt.Sprint("a long Value with Kind ", kind), opOf(kind, "a", long)}, badOp{fmt.Sprint("a Value and no path with Kind ", kind), opOf(kind, "", "v")})
	}
	return bad
}

type badFrame struct {
	why   string
	frame impl.Frame
}

// badFrames have code 2 at any valid replica whose own digest is sum.
func badFrames(t *testing.T, sum string) []badFrame {
	t.Helper()
	var bad []badFrame
	for _, kind := range []int{0, 4, 5, -1, 199, 257, 258, 1<<32 + 2, math.MinInt, math.MaxInt} {
		for _, payload := range []string{"", sum, "\x00\x00", strings.Repeat("p", impl.MaxPayload+1)} {
			bad = append(bad, badFrame{fmt.Sprintf("Kind %d, %d bytes", kind, len(payload)), frameOf(kind, payload)})
		}
	}
	for _, payload := range []string{"", sum[:1], sum[:7], sum[1:], sum + "\x00", "\x00" + sum, sum + sum, "\x00\x00", strings.Repeat("p", impl.MaxPayload+1)} {
		bad = append(bad, badFrame{fmt.Sprintf("a hello of %d bytes", len(payload)), frameOf(impl.FrameHello, payload)})
	}
	ctx := spelled(stateOf(runsOf(0, 1, 9, 1, 1, 9)))
	ctx = ctx[:len(ctx)-1]
	for _, kind := range []int{impl.FrameWhole, impl.FrameDelta} {
		for why, tree := range treesThatAreRefused() {
			bad = append(bad, badFrame{why, impl.Frame{Kind: kind, Payload: slices.Concat(ctx, tree)}})
		}
		for _, payload := range []string{"", "\x00", "\x00\x00\x00", "\x01", strings.Repeat("\x00", impl.MaxPayload+1)} {
			bad = append(bad, badFrame{fmt.Sprintf("a state of the bytes %.9q", payload), frameOf(kind, payload)})
		}
		bad = append(bad, badFrame{"a state of one byte too many", stateFrame(kind, fullState(t, impl.MaxPayload+1))})
	}
	return bad
}

func (l *lists) addReplica(r impl.Replica) {
	l.addState(r.State)
	l.addState(r.Delta)
}

func roomyReplica(r impl.Replica) impl.Replica {
	return replicaOf(r.Id, roomyState(r.State), roomyState(r.Delta))
}

func replicaAsIs(r impl.Replica) string {
	return fmt.Sprint(r.Id, asIs(r.State), asIs(r.Delta))
}
