package tests

import (
	"bytes"
	"fmt"
	"slices"
	"testing"

	"loop.example/s02772/impl"
)

// checkTaking holds both kinds of frames that have a state against the sets.
func checkTaking(t *testing.T, r impl.Replica, s impl.State) impl.Replica {
	t.Helper()
	want, wantCode := modelOfTaking(r, s)
	for _, kind := range []int{impl.FrameWhole, impl.FrameDelta} {
		next, replies, code := impl.Handle(r, stateFrame(kind, s))
		if code != wantCode || len(replies) != 0 || !sameReplica(next, want) {
			t.Errorf("kind %d, %v into %v: %v, %d replies, code %d; not %v %d", kind, s, r, next, len(replies), code, want, wantCode)
		}
		checkKept(t, fmt.Sprint("kind ", kind), r, next, code)
	}
	return want
}

func checkHandleCode(t *testing.T, why string, r impl.Replica, f impl.Frame, want int) {
	t.Helper()
	if !impl.ReplicaOk(r) {
		t.Fatalf("%s: the replica is not valid", why)
	}
	next, replies, code := impl.Handle(r, f)
	if code != want {
		t.Errorf("%s, Kind %d: code %d, not %d", why, f.Kind, code, want)
	}
	if code != 0 && len(replies) != 0 {
		t.Errorf("%s, Kind %d: %d replies", why, f.Kind, len(replies))
	}
	checkKept(t, fmt.Sprint(why, ", Kind ", f.Kind), r, next, code)
	if !sameState(next.Delta, r.Delta) {
		t.Errorf("%s, Kind %d: Delta is %v", why, f.Kind, next.Delta)
	}
}

// checkSays holds Hello and Whole against the test's own bytes; Delta has no part in them.
func checkSays(t *testing.T, why string, r impl.Replica) {
	t.Helper()
	if f, ok := impl.Hello(r); !ok || !sameFrame(f, helloFrame(r.State)) {
		t.Errorf("%s: hello %v %v", why, f, ok)
	}
	if f, ok := impl.Whole(r); !ok || !sameFrame(f, stateFrame(impl.FrameWhole, r.State)) {
		t.Errorf("%s: whole %v %v", why, f, ok)
	}
}

func TestHelloAndWhole(t *testing.T) {
	empty, _ := impl.Hello(impl.Replica{Id: 3})
	sum := impl.Digest([]byte{0, 0})
	want := []byte{byte(sum >> 56), byte(sum >> 48), byte(sum >> 40), byte(sum >> 32), byte(sum >> 24), byte(sum >> 16), byte(sum >> 8), byte(sum)}
	if empty.Kind != 1 || !bytes.Equal(empty.Payload, want) || !bytes.Equal(want, helloFrame(impl.State{}).Payload) {
		t.Errorf("the hello of an empty state is %v, not %v", empty, want)
	}
	states := append(statesAtTheLimits(t), wideRuns(impl.MaxRuns-1))
	for i, s := range states {
		checkSays(t, fmt.Sprint("limit ", i), replicaOf(i%impl.MaxReps, s, states[(i+1)%len(states)]))
	}
	d := &dice{state: 111}
	// some of these digests begin with a 0, which is to be there too
	for i := range 1500 {
		checkSays(t, fmt.Sprint("replica ", i), diceReplica(d))
	}
}

func TestHelloOfTheSameState(t *testing.T) {
	d := &dice{state: 112}
	states := statesAtTheLimits(t)
	for range 300 {
		states = append(states, diceState(d))
	}
	for i, s := range states {
		one := replicaOf(d.below(impl.MaxReps), s, diceState(d))
		two := replicaOf(d.below(impl.MaxReps), s, diceState(d))
		hello, _ := impl.Hello(one)
		next, replies, code := impl.Handle(two, hello)
		if code != 0 || len(replies) != 0 || !sameReplica(next, two) {
			t.Errorf("state %d: code %d, %d replies", i, code, len(replies))
		}
	}
}

// checkSync lets the first one say hello to the second, and take the reply in.
func checkSync(t *testing.T, why string, first impl.Replica, second impl.Replica) impl.Replica {
	t.Helper()
	hello, _ := impl.Hello(first)
	stayed, replies, code := impl.Handle(second, hello)
	if code != 0 || !sameReplica(stayed, second) {
		t.Errorf("%s: code %d, and the second one is %v", why, code, stayed)
	}
	if sameFrame(helloFrame(first.State), helloFrame(second.State)) {
		if len(replies) != 0 {
			t.Errorf("%s: the same digest gets a reply", why)
		}
		return first
	}
	if len(replies) != 1 || !sameFrame(replies[0], stateFrame(impl.FrameWhole, second.State)) {
		t.Fatalf("%s: the replies are %v", why, replies)
	}
	want, wantCode := modelOfTaking(first, second.State)
	next, more, code := impl.Handle(first, replies[0])
	if code != wantCode || len(more) != 0 || !sameReplica(next, want) {
		t.Errorf("%s: %v, %d replies, code %d; not %v %d", why, next, len(more), code, want, wantCode)
	}
	checkKept(t, why, first, next, code)
	return next
}

func TestHelloOfAnotherState(t *testing.T) {
	d := &dice{state: 113}
	for i := range 800 {
		checkSync(t, fmt.Sprint("pair ", i), diceReplica(d), diceReplica(d))
	}
	for i := range 100 {
		checkSync(t, fmt.Sprint("full pair ", i), diceFullReplica(t, d), diceReplica(d))
		checkSync(t, fmt.Sprint("pair with a full one ", i), diceReplica(d), diceFullReplica(t, d))
	}
}

// Any eight bytes but its own are a hello of another one, by however little they differ.
func TestHelloOfOtherBytes(t *testing.T) {
	r := replicaOf(2, stateOf(runsOf(2, 1, 1), regLeaf("a", 2, 1, "v")), impl.State{})
	own := helloFrame(r.State).Payload
	payloads := [][]byte{make([]byte, 8), bytes.Repeat([]byte{255}, 8), helloFrame(impl.State{}).Payload, slices.Clone(own)}
	slices.Reverse(payloads[3])
	for bit := range 64 {
		other := slices.Clone(own)
		other[bit/8] ^= 1 << (bit % 8)
		payloads = append(payloads, other)
	}
	for i, payload := range payloads {
		next, replies, code := impl.Handle(r, impl.Frame{Kind: impl.FrameHello, Payload: payload})
		if code != 0 || len(replies) != 1 || !sameFrame(replies[0], stateFrame(impl.FrameWhole, r.State)) || !sameReplica(next, r) {
			t.Errorf("payload %d: %v %d", i, replies, code)
		}
	}
}

// Replicas that changed on their own come to the same by hellos and wholes alone, and by deltas alone.
func TestReplicasComeTogether(t *testing.T) {
	d := &dice{state: 114}
	for range 40 {
		reps := make([]impl.Replica, 3)
		for i := range reps {
			reps[i].Id = i
		}
		for range 20 {
			i := d.below(3)
			reps[i] = checkDo(t, reps[i], diceOp(d))
		}
		byDelta := slices.Clone(reps)
		for i := range reps {
			flushed, f, ok := impl.Flush(byDelta[i])
			byDelta[i] = flushed
			for k := range reps {
				if ok && k != i {
					byDelta[k] = mustHandle(t, byDelta[k], f)
				}
			}
		}
		for range 2 {
			for i := range reps {
				for k := range reps {
					if i != k {
						reps[i] = checkSync(t, "on the way", reps[i], reps[k])
					}
				}
			}
		}
		for i := range reps {
			if !sameState(reps[i].State, reps[0].State) || !sameState(byDelta[i].State, reps[0].State) {
				t.Errorf("replica %d: %v by hellos, %v by deltas, and 0 has %v", i, reps[i].State, byDelta[i].State, reps[0].State)
			}
		}
	}
}

func TestStatesTakenIn(t *testing.T) {
	d := &dice{state: 115}
	for range 800 {
		checkTaking(t, diceReplica(d), diceState(d))
	}
	r := replicaOf(0, stateOf(runsOf(0, 1, 2), regLeaf("a", 0, 1, "v"), flagLeaf("b", 0, 2)), impl.State{})
	for _, c := range []struct {
		why  string
		came impl.State
		want impl.State
	}{
		{"nothing", impl.State{}, r.State},
		{"the same", r.State, r.State},
		{"all taken back", stateOf(runsOf(0, 1, 2)), stateOf(runsOf(0, 1, 2))},
		{"one taken back, one new", stateOf(runsOf(0, 1, 1, 5, 1, 1), regLeaf("a", 5, 1, "w")), stateOf(runsOf(0, 1, 2, 5, 1, 1), regLeaf("a", 5, 1, "w"), flagLeaf("b", 0, 2))},
		{"a dot of its own", stateOf(runsOf(0, 3, 3), flagLeaf("c", 0, 3)), stateOf(runsOf(0, 1, 3), regLeaf("a", 0, 1, "v"), flagLeaf("b", 0, 2), flagLeaf("c", 0, 3))},
		{"the same dot with another value", stateOf(runsOf(0, 1, 1), regLeaf("a", 0, 1, "w")), stateOf(runsOf(0, 1, 2), flagLeaf("b", 0, 2))},
	} {
		if next := checkTaking(t, r, c.came); !sameState(next.State, c.want) {
			t.Errorf("%s: %v", c.why, next.State)
		}
	}
}

func TestFramesThatAreRefused(t *testing.T) {
	replicas := []impl.Replica{
		{}, replicaOf(1, stateOf(runsOf(0, 1, 2), regLeaf("a", 0, 1, "v")), stateOf(runsOf(7, 1, 1))),
		replicaOf(7, fullState(t, impl.MaxPayload), fullState(t, impl.MaxPayload)), replicaOf(0, stateOf(lonely(1, 1, impl.MaxRuns)), impl.State{}),
	}
	for i, r := range replicas {
		sum := string(helloFrame(r.State).Payload)
		for _, bad := range badFrames(t, sum) {
			checkHandleCode(t, fmt.Sprint(bad.why, ", replica ", i), r, bad.frame, 2)
		}
		checkHandleCode(t, "eight bytes", r, frameOf(impl.FrameHello, sum), 0)
		checkHandleCode(t, "eight other bytes", r, frameOf(impl.FrameHello, "12345678"), 0)
	}
}

func checkTakingCode(t *testing.T, why string, state impl.State, came impl.State, want int) {
	t.Helper()
	for _, kind := range []int{impl.FrameWhole, impl.FrameDelta} {
		checkHandleCode(t, why, replicaOf(6, state, impl.State{}), stateFrame(kind, came), want)
		checkHandleCode(t, why+", with a Delta", replicaOf(6, state, fullState(t, impl.MaxPayload)), stateFrame(kind, came), want)
		checkHandleCode(t, why+", the other way", replicaOf(6, came, impl.State{}), stateFrame(kind, state), want)
	}
}

func TestJoinsThatAreNotFit(t *testing.T) {
	came := stateOf(runsOf(1, 1, 1), regLeaf("z", 1, 1, "v"))
	more := len(spelled(mustJoin(t, fullState(t, 3900), came))) - 3900
	checkTakingCode(t, "at MaxPayload", fullState(t, impl.MaxPayload-more), came, 0)
	checkTakingCode(t, "one byte above", fullState(t, impl.MaxPayload-more+1), came, 3)
	checkTakingCode(t, "far above", fullState(t, impl.MaxPayload), manyLeaves(1, "n", 300), 3)
	checkTakingCode(t, "a full one and itself", fullState(t, impl.MaxPayload), fullState(t, impl.MaxPayload), 0)
	checkTakingCode(t, "a full one and nothing", fullState(t, impl.MaxPayload), impl.State{}, 0)
	checkTakingCode(t, "runs at MaxPayload", wideRuns(impl.MaxRuns-1), wideRuns(10), 0)
	checkTakingCode(t, "runs above", wideRuns(impl.MaxRuns-1), stateOf(runsOf(2, 1, 1)), 3)
	next, _, _ := impl.Handle(replicaOf(0, fullState(t, impl.MaxPayload-more), impl.State{}), stateFrame(impl.FrameWhole, came))
	if len(spelled(next.State)) != impl.MaxPayload {
		t.Errorf("%d bytes", len(spelled(next.State)))
	}
	d := &dice{state: 116}
	for range 100 {
		checkTaking(t, diceFullReplica(t, d), diceState(d))
	}
}

func TestJoinsThatAreNotThere(t *testing.T) {
	// all small dots of the replicas 0 to 6, beside some of replica 7
	most := smallDots("a", 889)
	other := func(count int) impl.State {
		s := impl.State{Ctx: runsOf(7, 1, count)}
		for i := range count {
			s.Leaves = append(s.Leaves, flagLeaf("b", 7, i+1))
		}
		return s
	}
	checkTakingCode(t, "just MaxLeaves", most, other(111), 0)
	checkTakingCode(t, "one leaf too many", most, other(112), 3)
	checkTakingCode(t, "just MaxRuns", stateOf(lonely(1, 1, 600)), stateOf(lonely(2, 1, 400)), 0)
	checkTakingCode(t, "one run too many", stateOf(lonely(1, 1, 600)), stateOf(lonely(2, 1, 401)), 3)
	checkTakingCode(t, "gaps are filled", stateOf(lonely(1, 1, impl.MaxRuns)), stateOf(lonely(1, 2, impl.MaxRuns)), 0)
	checkTakingCode(t, "MaxRuns twice", stateOf(lonely(1, 1, impl.MaxRuns)), stateOf(lonely(1, 2*impl.MaxRuns+1, impl.MaxRuns)), 3)
}

func checkHandleApart(t *testing.T, why string, r impl.Replica, f impl.Frame) {
	t.Helper()
	r = roomyReplica(r)
	f.Payload = roomyBytes(f.Payload)
	kept, keptPayload := replicaAsIs(r), bytesAsIs(f.Payload)
	next, replies, _ := impl.Handle(r, f)
	if replicaAsIs(r) != kept || bytesAsIs(f.Payload) != keptPayload {
		t.Errorf("%s: Handle changed an argument", why)
	}
	parts := [][]byte{f.Payload}
	for _, reply := range replies {
		parts = append(parts, reply.Payload)
	}
	checkBytesApart(t, "Handle, "+why, parts...)
	all := lists{}
	all.addReplica(next)
	all.addReplica(r)
	all.checkApart(t, "Handle, "+why)
}

func TestHandledReplicasAreNewMemory(t *testing.T) {
	d := &dice{state: 117}
	for range 200 {
		r := diceReplica(d)
		checkHandleApart(t, "its own hello", r, helloFrame(r.State))
		checkHandleApart(t, "hello", r, helloFrame(diceState(d)))
		checkHandleApart(t, "whole", r, stateFrame(impl.FrameWhole, diceState(d)))
		checkHandleApart(t, "delta", r, stateFrame(impl.FrameDelta, diceState(d)))
		checkHandleApart(t, "nothing", r, stateFrame(impl.FrameDelta, impl.State{}))
		checkHandleApart(t, "code 2", r, frameOf(impl.FrameWhole, "bytes"))
		checkHandleApart(t, "code 3", replicaOf(1, fullState(t, impl.MaxPayload), r.Delta), stateFrame(impl.FrameWhole, manyLeaves(1, "n", 20)))
		one, _ := impl.Hello(r)
		two, _ := impl.Hello(r)
		whole, _ := impl.Whole(r)
		again, _ := impl.Whole(r)
		checkBytesApart(t, "Hello and Whole", one.Payload, two.Payload, whole.Payload, again.Payload)
	}
	for _, bad := range badReplicas(t) {
		checkHandleApart(t, bad.why, bad.replica, stateFrame(impl.FrameWhole, impl.State{}))
	}
}

func TestSayingChangesNothing(t *testing.T) {
	d := &dice{state: 118}
	for range 100 {
		r := roomyReplica(diceReplica(d))
		kept := replicaAsIs(r)
		impl.Hello(r)
		impl.Whole(r)
		impl.ReplicaOk(r)
		if replicaAsIs(r) != kept {
			t.Errorf("an argument was changed")
		}
	}
}
