package tests

import (
	"bytes"
	"math"
	"slices"
	"testing"

	"loop.example/s02772/impl"
)

func checkContextComesBack(t *testing.T, c impl.Context) {
	t.Helper()
	b, ok := impl.PutContext(c)
	if !ok {
		t.Fatalf("%v is not written", c)
	}
	for _, front := range []string{"", "\x01", "\x80\x80\xff"} {
		for _, behind := range []string{"", "\x00", "\xff\x01"} {
			laid := slices.Concat([]byte(front), b, []byte(behind))
			got, at, code := impl.GetContext(laid, len(front))
			if code != 0 || at != len(front)+len(b) || !sameContext(got, c) {
				t.Errorf("%v behind %q: %v %d %d", c, front, got, at, code)
			}
		}
	}
}

func limitContexts() []impl.Context {
	eight := impl.Context{}
	for rep := range impl.MaxReps {
		eight = sideBySide(eight, lonely(rep, 1+rep, impl.MaxRuns/impl.MaxReps))
	}
	return []impl.Context{
		runsOf(), runsOf(0, 1, 1), runsOf(7, impl.MaxSeq, impl.MaxSeq), runsOf(7, 1, impl.MaxSeq),
		runsOf(3, 1, impl.MaxSeq-2, 3, impl.MaxSeq, impl.MaxSeq), runsOf(3, 1, 1, 3, 3, impl.MaxSeq), runsOf(0, 1, 1, 7, 1, 1),
		lonely(1, 1, impl.MaxRuns), lonely(7, impl.MaxSeq-2*impl.MaxRuns+2, impl.MaxRuns), eight,
	}
}

func TestContextComesBack(t *testing.T) {
	for _, c := range limitContexts() {
		checkContextComesBack(t, c)
	}
	d := &dice{state: 5}
	for range 1000 {
		checkContextComesBack(t, contextOfSet(diceSet(d)))
	}
}

func TestContextBytes(t *testing.T) {
	for i, c := range []struct {
		ctx  impl.Context
		want []byte
	}{
		{runsOf(), []byte{0}}, {runsOf(0, 1, 1), []byte{1, 0, 1, 0, 0}}, {runsOf(5, 4, 9), []byte{1, 5, 1, 3, 5}},
		{runsOf(0, 1, 3, 0, 5, 5, 2, 7, 9), []byte{2, 0, 2, 0, 2, 0, 0, 2, 1, 6, 2}},
		{runsOf(1, 2, 2, 1, 10, 20, 1, 300, 300), slices.Concat([]byte{1, 1, 3, 1, 0, 6, 10}, varints(278, 0))},
		{runsOf(7, impl.MaxSeq, impl.MaxSeq), varints(1, 7, 1, impl.MaxSeq-1, 0)},
	} {
		if b, ok := impl.PutContext(c.ctx); !ok || !bytes.Equal(b, c.want) {
			t.Errorf("case %d: %v %v", i, b, ok)
		}
	}
}

func TestContextThatIsNotWritten(t *testing.T) {
	for _, bad := range badContexts() {
		if b, ok := impl.PutContext(bad.ctx); ok || len(b) != 0 {
			t.Errorf("%s: %v %v", bad.why, b, ok)
		}
	}
}

func checkContextRefused(t *testing.T, why string, b []byte, pos int) {
	t.Helper()
	if c, at, code := impl.GetContext(b, pos); code != 1 || at != pos || len(c.Runs) != 0 {
		t.Errorf("%s: %v %d %d", why, c, at, code)
	}
}

func lonelyBytes(rep uint64, count int) []byte {
	b := varints(rep, uint64(count))
	for range count {
		b = append(b, 0, 0)
	}
	return b
}

func TestContextBytesThatAreRefused(t *testing.T) {
	for _, c := range []struct {
		why string
		b   []byte
	}{
		{"nothing", nil},
		{"a replica with no runs", varints(1, 0, 0)}, {"the second has no runs", varints(2, 0, 1, 0, 0, 1, 0)},
		{"out of order", varints(2, 1, 1, 0, 0, 0, 1, 0, 0)}, {"twice", varints(2, 1, 1, 0, 0, 1, 1, 4, 0)},
		{"the third out of order", varints(3, 0, 1, 0, 0, 5, 1, 0, 0, 4, 1, 0, 0)},
		{"Rep 8", varints(1, impl.MaxReps, 1, 0, 0)}, {"nine replicas", varints(9, 0, 1, 0, 0, 1, 1, 0, 0, 2, 1, 0, 0, 3, 1, 0, 0, 4, 1, 0, 0, 5, 1, 0, 0, 6, 1, 0, 0, 7, 1, 0, 0, 8, 1, 0, 0)},
		{"From above", varints(1, 0, 1, impl.MaxSeq, 0)}, {"To above", varints(1, 0, 1, 0, impl.MaxSeq)}, {"To above at the end", varints(1, 0, 1, impl.MaxSeq-1, 1)},
		{"no room behind the greatest", varints(1, 0, 2, 0, impl.MaxSeq-1, 0, 0)}, {"no room with the gap", varints(1, 0, 2, 0, impl.MaxSeq-2, 0, 0)},
		{"the second From above", varints(1, 0, 2, 0, 0, impl.MaxSeq-2, 0)}, {"the second To above", varints(1, 0, 2, 0, 0, impl.MaxSeq-3, 1)},
		{"one run too many", slices.Concat(varints(1), lonelyBytes(0, impl.MaxRuns+1))},
		{"one run too many together", slices.Concat(varints(2), lonelyBytes(0, impl.MaxRuns/2), lonelyBytes(1, impl.MaxRuns/2+1))},
		{"a replica too many behind full runs", slices.Concat(varints(2), lonelyBytes(0, impl.MaxRuns), lonelyBytes(1, 1))},
	} {
		checkContextRefused(t, c.why, c.b, 0)
		checkContextRefused(t, c.why+", behind", slices.Concat([]byte{1, 0, 1}, c.b), 3)
	}
	if c, _, code := impl.GetContext(varints(1, 0, 2, 0, impl.MaxSeq-3, 0, 0), 0); code != 0 || !sameContext(c, runsOf(0, 1, impl.MaxSeq-2, 0, impl.MaxSeq, impl.MaxSeq)) {
		t.Errorf("just room for one more: %v %d", c, code)
	}
}

// Each number of a good context is made great in turn, so that none can wrap round into a good one.
func TestContextWithGreatNumbers(t *testing.T) {
	good := []uint64{2, 0, 2, 0, 0, 0, 0, 1, 1, 0, 0}
	if _, _, code := impl.GetContext(varints(good...), 0); code != 0 {
		t.Fatalf("code %d", code)
	}
	for i := range good {
		for _, great := range []uint64{impl.MaxSeq + 1, 1 << 31, 1 << 32, 1<<32 + 1, 1 << 63, 1<<63 - 1, math.MaxUint64 - 1, math.MaxUint64} {
			bad := slices.Clone(good)
			bad[i] = great
			checkContextRefused(t, "great", varints(bad...), 0)
		}
		for _, turn := range []uint64{1 << 31, 1 << 32, 1 << 63} {
			bad := slices.Clone(good)
			bad[i] += turn
			checkContextRefused(t, "whole turns of an int too many", varints(bad...), 0)
		}
	}
}

func TestContextWithBadVarints(t *testing.T) {
	good := []uint64{2, 0, 2, 0, 0, 0, 0, 1, 1, 0, 0}
	tooGreat := append(bytes.Repeat([]byte{0xff}, 9), 2)
	for i, v := range good {
		padded := slices.Concat(varints(good[:i]...), []byte{byte(v) | 0x80, 0}, varints(good[i+1:]...))
		checkContextRefused(t, "padded", padded, 0)
		checkContextRefused(t, "tenth byte", slices.Concat(varints(good[:i]...), tooGreat, varints(good[i+1:]...)), 0)
	}
}

func TestContextThatEndsEarly(t *testing.T) {
	for _, c := range append(limitContexts(), runsOf(1, 2, 2, 1, 10, 20, 1, 300, 300, 6, 1000, 70000)) {
		b, _ := impl.PutContext(c)
		for cut := range b {
			checkContextRefused(t, "cut", b[:cut], 0)
		}
	}
}

func TestContextPositions(t *testing.T) {
	b := []byte{0, 0}
	for _, pos := range []int{-1, math.MinInt, 2, 3, math.MaxInt} {
		checkContextRefused(t, "position", b, pos)
	}
	for pos := range b {
		if c, at, code := impl.GetContext(b, pos); code != 0 || at != pos+1 || len(c.Runs) != 0 {
			t.Errorf("position %d: %v %d %d", pos, c, at, code)
		}
	}
}

func acceptsOnlyItsOwn(t *testing.T, b []byte) {
	t.Helper()
	c, at, code := impl.GetContext(b, 0)
	if code != 0 {
		if code != 1 || at != 0 || len(c.Runs) != 0 {
			t.Errorf("%v: %v %d %d", b, c, at, code)
		}
		return
	}
	if back, ok := impl.PutContext(c); !ok || !bytes.Equal(back, b[:at]) {
		t.Errorf("%v is read as %v", b[:at], c)
	}
}

func TestOnlyWrittenBytesAreAccepted(t *testing.T) {
	alphabet := []byte{0, 1, 2, 7, 8, 0x80}
	b := make([]byte, 6)
	for n := range 6 * 6 * 6 * 6 * 6 * 6 {
		for i := range b {
			b[i] = alphabet[n%6]
			n /= 6
		}
		acceptsOnlyItsOwn(t, b)
	}
	d := &dice{state: 6}
	for range 100 {
		good, _ := impl.PutContext(contextOfSet(diceSet(d)))
		for i := range good {
			for _, x := range []byte{1, 2, 3, 4, 8, 16, 64, 0x80, 0x81, 0xff} {
				bad := slices.Clone(good)
				bad[i] ^= x
				acceptsOnlyItsOwn(t, bad)
			}
		}
	}
}
