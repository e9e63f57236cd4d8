package tests

import (
	"encoding/binary"
	"slices"
	"strings"
	"testing"

	"loop.example/s02772/impl"
)

// speller is the test's own writer of states, which writes what it is given in the order it comes, valid or not.
type speller struct {
	bytes   []byte
	numbers int
	longer  int  // the number that gets one byte more than it needs; -1 for none
	cannot  bool // a number below 0, or a leaf without names
}

func (s *speller) number(v int) {
	if v < 0 {
		s.cannot = true
		return
	}
	s.bytes = binary.AppendUvarint(s.bytes, uint64(v))
	if s.numbers == s.longer {
		s.bytes[len(s.bytes)-1] |= 128
		s.bytes = append(s.bytes, 0)
	}
	s.numbers++
}

func (s *speller) text(x string) {
	s.number(len(x))
	s.bytes = append(s.bytes, x...)
}

func (s *speller) context(c impl.Context) {
	var parts [][]impl.Run
	for i, r := range c.Runs {
		if i == 0 || r.Rep != c.Runs[i-1].Rep {
			parts = append(parts, nil)
		}
		parts[len(parts)-1] = append(parts[len(parts)-1], r)
	}
	s.number(len(parts))
	for _, runs := range parts {
		s.number(runs[0].Rep)
		s.number(len(runs))
		least := 1
		for _, r := range runs {
			s.number(r.From - least)
			s.number(r.To - r.From)
			least = r.To + 2
		}
	}
}

func keyAt(l impl.Leaf, depth int) impl.Key {
	switch {
	case len(l.Path) > depth+1:
		return impl.Key{Name: l.Path[depth], Kind: impl.KindMap}
	case l.Flag:
		return impl.Key{Name: l.Path[depth], Kind: impl.KindFlag}
	}
	return impl.Key{Name: l.Path[depth], Kind: impl.KindReg}
}

func (s *speller) tree(leaves []impl.Leaf, depth int) {
	var parts [][]impl.Leaf
	for i, l := range leaves {
		if len(l.Path) == 0 {
			s.cannot = true
			return
		}
		if i == 0 || keyAt(l, depth) != keyAt(leaves[i-1], depth) {
			parts = append(parts, nil)
		}
		parts[len(parts)-1] = append(parts[len(parts)-1], l)
	}
	s.number(len(parts))
	for _, part := range parts {
		key := keyAt(part[0], depth)
		s.text(key.Name)
		s.bytes = append(s.bytes, byte(key.Kind))
		if key.Kind == impl.KindMap {
			s.tree(part, depth+1)
			continue
		}
		s.number(len(part))
		for _, l := range part {
			s.number(l.Dot.Rep)
			s.number(l.Dot.Seq)
			if key.Kind == impl.KindReg {
				s.text(l.Value)
			}
		}
	}
}

func (s *speller) state(x impl.State) []byte {
	s.context(x.Ctx)
	s.tree(x.Leaves, 0)
	return s.bytes
}

func spelled(s impl.State) []byte {
	speller := &speller{longer: -1}
	return speller.state(s)
}

// bytesOf writes numbers as varints, texts with their lengths in front, and bytes as they are.
func bytesOf(parts ...any) []byte {
	var b []byte
	for _, p := range parts {
		switch x := p.(type) {
		case int:
			b = binary.AppendUvarint(b, uint64(x))
		case uint64:
			b = binary.AppendUvarint(b, x)
		case string:
			b = append(binary.AppendUvarint(b, uint64(len(x))), x...)
		case []byte:
			b = append(b, x...)
		}
	}
	return b
}

// fullState is a state of just n bytes, n from 20 to some 8000: registers of the name a, each in a map of its own.
func fullState(t *testing.T, n int) impl.State {
	t.Helper()
	s := impl.State{}
	for i := 0; ; i++ {
		s.Ctx = runsOf(0, 1, i+1)
		s.Leaves = append(s.Leaves, regLeaf("m"+string(rune('A'+i))+"/a", 0, i+1, ""))
		short := n - len(spelled(s))
		if short <= 120 {
			s.Leaves[i].Value = strings.Repeat("v", max(short, 0))
			break
		}
		s.Leaves[i].Value = strings.Repeat("v", 100)
	}
	if len(spelled(s)) != n {
		t.Fatalf("%d bytes and not %d", len(spelled(s)), n)
	}
	return s
}

// smallDots is a flag with count leaves whose numbers all have one byte, so that no state has more leaves in so few bytes.
func smallDots(path string, count int) impl.State {
	s := impl.State{}
	for rep := range impl.MaxReps {
		some := min(count-len(s.Leaves), 127)
		for i := range some {
			s.Leaves = append(s.Leaves, flagLeaf(path, rep, i+1))
		}
		if some > 0 {
			s.Ctx.Runs = append(s.Ctx.Runs, impl.Run{Rep: rep, From: 1, To: some})
		}
	}
	return s
}

// statesAtTheLimits are valid and have at most MaxPayload bytes.
func statesAtTheLimits(t *testing.T) []impl.State {
	t.Helper()
	long := strings.Repeat("n", impl.MaxName)
	text := strings.Repeat("v", impl.MaxText)
	twoFlags := smallDots("a", impl.MaxLeaves)
	for i := range twoFlags.Leaves[600:] {
		twoFlags.Leaves[600+i].Path = names("b/c")
	}
	states := []impl.State{
		{},
		stateOf(runsOf(0, 1, 1), regLeaf(long, 0, 1, text)),
		stateOf(runsOf(7, impl.MaxSeq, impl.MaxSeq), regLeaf("a", 7, impl.MaxSeq, "")),
		stateOf(runsOf(7, 1, impl.MaxSeq), flagLeaf("a", 7, 1), flagLeaf("a", 7, impl.MaxSeq)),
		stateOf(runsOf(0, 1, 2), regLeaf("1/2/3/4/5/6/7/8", 0, 1, ""), flagLeaf("1/2/3/4/5/6/7/8", 0, 2)),
		stateOf(runsOf(3, 1, 1), flagLeaf(strings.Repeat(long+"/", impl.MaxDepth-1)+long, 3, 1)),
		stateOf(runsOf(0, 1, 1), impl.Leaf{Path: []string{"\x00", "/ \xff\n"}, Dot: impl.Dot{Rep: 0, Seq: 1}, Value: "\x00\xff"}),
		smallDots("a", impl.MaxLeaves), twoFlags,
		fullState(t, impl.MaxPayload), fullState(t, impl.MaxPayload-1),
	}
	for _, c := range limitContexts() {
		states = append(states, stateOf(c))
	}
	return states
}

// edited is b with a byte changed, taken out or put in, or with a piece doubled, taken out or exchanged with the next one.
func edited(d *dice, b []byte) []byte {
	at := d.below(len(b))
	end := min(at+1+d.below(9), len(b))
	beyond := min(end+1+d.below(9), len(b))
	small := byte(d.below(5))
	switch d.below(7) {
	case 0:
		return slices.Concat(b[:at], []byte{small}, b[at+1:])
	case 1:
		return slices.Concat(b[:at], b[at+1:])
	case 2:
		return slices.Concat(b[:at], []byte{small}, b[at:])
	case 3:
		return slices.Concat(b[:end], b[at:end], b[end:])
	case 4:
		return slices.Concat(b[:at], b[end:])
	case 5:
		return slices.Concat(b[:at], b[end:beyond], b[at:end], b[beyond:])
	}
	return slices.Concat(b[:at], []byte{b[at] ^ 1<<d.below(8)}, b[at+1:])
}
