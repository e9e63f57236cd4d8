package tests

import (
	"fmt"
	"math"
	"slices"
	"strings"
	"testing"

	"loop.example/s02772/impl"
)

func TestNewWorlds(t *testing.T) {
	for n := 1; n <= 8; n++ {
		w, ok := impl.NewWorld(n)
		if fault := worldFault(w); !ok || fault != "" || len(w.Reps) != n {
			t.Errorf("world of %d: %v %s", n, ok, fault)
		}
		for _, r := range w.Reps {
			if !nothingIn(r.State) || !nothingIn(r.Delta) {
				t.Errorf("world of %d: replica %v", n, r)
			}
		}
		for _, p := range w.Pipes {
			if len(p.Msgs) != 0 || !sameDecoder(p.Dec, impl.Decoder{}) {
				t.Errorf("world of %d: pipe %v", n, p)
			}
		}
		again, _ := impl.NewWorld(n)
		checkNoSharing(t, fmt.Sprint("worlds of ", n), w, again)
	}
	for _, n := range []int{0, 9, 10, -1, -8, 256 + 2, 1<<32 + 2, math.MinInt, math.MaxInt} {
		if w, ok := impl.NewWorld(n); ok || !sameWorld(w, impl.World{}) {
			t.Errorf("world of %d: %v %v", n, w, ok)
		}
	}
	if impl.MaxPending != 100000 || impl.MaxScript != 20000 {
		t.Errorf("the limits are others")
	}
}

func checkNine(t *testing.T, why string, w impl.World, c impl.Cmd) {
	t.Helper()
	next, answer := impl.Step(w, c)
	if !sameAnswer(answer, onlyCode(9)) {
		t.Errorf("%s, %v: %v", why, c, answer)
	}
	if !sameWorld(next, w) {
		t.Errorf("%s, %v: the world is another", why, c)
	}
}

func TestWorldsThatAreNotValid(t *testing.T) {
	for _, bad := range badWorlds(t) {
		if worldFault(bad.world) == "" {
			t.Fatalf("%s: valid by the test", bad.why)
		}
		for _, line := range lineOfEach() {
			checkNine(t, bad.why, bad.world, lineCmd(t, line))
		}
		checkNine(t, bad.why, bad.world, impl.Cmd{})
	}
}

// Nothing is asked of decoders, and messages may have all the bytes there are.
func TestWorldsAtTheLimitsAreValid(t *testing.T) {
	ones := [][]byte{}
	for range impl.MaxPending {
		ones = append(ones, []byte{7})
	}
	for i, p := range []impl.Pipe{
		{Msgs: [][]byte{make([]byte, impl.MaxPending)}}, {Msgs: ones}, {Msgs: [][]byte{}}, {Dec: impl.Decoder{Failed: -3, Taken: math.MinInt, Buf: []byte("junk")}},
		{Dec: impl.Decoder{Failed: math.MaxInt, Taken: math.MaxInt}}, {Dec: impl.Decoder{Buf: make([]byte, 3*impl.MaxPending)}}, {Dec: impl.Decoder{Buf: frameBytes(2, "whole"), Taken: math.MaxInt}},
	} {
		for place := range 6 {
			w := mustWorld(t, 3)
			p.From, p.To = w.Pipes[place].From, w.Pipes[place].To
			w.Pipes[place] = p
			if next, answer := impl.Step(w, lineCmd(t, "put 0 a v")); answer.Code != 0 || !samePipe(next.Pipes[place], p) {
				t.Errorf("pipe %d at %d: %v", i, place, answer)
			}
		}
	}
	for i, s := range append(statesAtTheLimits(t), wideRuns(impl.MaxRuns-1)) {
		w := mustWorld(t, 2)
		w.Reps[1].State, w.Reps[0].Delta = s, s
		if next, answer := impl.Step(w, lineCmd(t, "keys 0")); answer.Code != 0 || !sameWorld(next, w) {
			t.Errorf("state %d: %v", i, answer)
		}
	}
}

// spoiled are commands that no line has, made of one that a line has.
func spoiled(line string, c impl.Cmd) []impl.Cmd {
	named := map[string]bool{}
	for _, form := range lineForms {
		if form.MatchString(line) {
			for _, part := range form.SubexpNames() {
				named[part] = true
			}
		}
	}
	numbers := func(part string, most int) []int {
		list := []int{-1, most + 1, most + 257, 1 << 32, math.MinInt, math.MaxInt}
		if !named[part] {
			list = append(list, 1, most)
		}
		return list
	}
	var bad []impl.Cmd
	with := func(how func(c *impl.Cmd)) {
		other := c
		how(&other)
		bad = append(bad, other)
	}
	for _, n := range numbers("A", 7) {
		with(func(c *impl.Cmd) { c.A = n })
	}
	for _, n := range numbers("B", 7) {
		with(func(c *impl.Cmd) { c.B = n })
	}
	for _, n := range numbers("N", 99999) {
		with(func(c *impl.Cmd) { c.N = n })
	}
	for _, n := range numbers("X", 255) {
		with(func(c *impl.Cmd) { c.X = n })
	}
	for _, path := range pathsOfNoLine(named["Path"], c.Word) {
		with(func(c *impl.Cmd) { c.Path = path })
	}
	for _, value := range valuesOfNoLine(named["Value"]) {
		with(func(c *impl.Cmd) { c.Value = value })
	}
	for _, word := range []string{"", c.Word + " ", " " + c.Word, c.Word + "\n", strings.ToUpper(c.Word), c.Word + c.Word, c.Word[1:], c.Word[:len(c.Word)-1], line, "world"} {
		with(func(c *impl.Cmd) { c.Word = word })
	}
	return bad
}

// pathsOfNoLine leaves out those that `keys` has with its other form.
func pathsOfNoLine(named bool, word string) [][]string {
	paths := [][]string{{""}, {"a", ""}, {"", "a"}, {"a", "", "b"}, {"a/b"}, {"/"}, {"a", "b/"}, {" "}, {"a b"}, {"a "}, {" a"}, {"a", "b c"}, {"a v"}}
	if word != "keys" && named {
		paths = append(paths, nil, []string{})
	}
	if word != "keys" && !named {
		paths = append(paths, []string{"a"}, []string{"a", "b"})
	}
	return paths
}

func valuesOfNoLine(named bool) []string {
	values := []string{" ", "v ", " v", "v w"}
	if named {
		return append(values, "")
	}
	return append(values, "v")
}

func TestCommandsOfNoLine(t *testing.T) {
	w := busyWorld(t)
	for _, line := range lineOfEach() {
		c := lineCmd(t, line)
		for _, bad := range spoiled(line, c) {
			checkNine(t, line, w, bad)
		}
		checkStep(t, w, line)
	}
	checkNine(t, "nothing", w, impl.Cmd{})
	checkNine(t, "all fields", w, impl.Cmd{Word: "put", A: 1, B: 1, N: 1, X: 1, Path: []string{"a"}, Value: "v"})
}

// What a line can have is done, even where a replica refuses it.
func TestCommandsOfOddLines(t *testing.T) {
	w := busyWorld(t)
	long := strings.Repeat("n", 41)
	for _, c := range []struct {
		line string
		code int
	}{
		{"put 2 a/b/c/d/e/f/g/h v", 0}, {"put 2 a/b/c/d/e/f/g/h/i v", 2}, {"put 2 " + long + " v", 2}, {"put 2 " + long[1:] + " v", 0}, {"put 2 a " + strings.Repeat("v", 200), 0},
		{"put 2 a " + strings.Repeat("v", 201), 2}, {"put 2 \r\t\x00\xff a/b//", 0}, {"on 2 " + long, 2}, {"off 2 a/" + long, 2}, {"remove 2 a/b/c/d/e/f/g/h/i", 2},
		{"read 0 " + long, 0}, {"flag 0 " + long, 0}, {"keys 0 a/b/c/d/e/f/g/h/i", 0}, {"deliver 0 1 99999", 0}, {"flip 0 1 99999 255", 1}, {"flip 0 1 00000 000", 0}, {"flip 0 1 0 255", 0},
	} {
		if _, answer := checkStep(t, w, c.line); answer.Code != c.code {
			t.Errorf("%.40q: code %d", c.line, answer.Code)
		}
	}
}

func TestReplicasThatAreNotThere(t *testing.T) {
	for n := 1; n <= 8; n++ {
		w := mustWorld(t, n)
		for _, line := range lineOfEach() {
			c := lineCmd(t, line)
			for a := range 8 {
				for b := range 8 {
					c.A, c.B = a, b
					want := a >= n || b >= n || a == b
					if !meansPipe(c.Word) {
						c.B, want = 0, a >= n
					}
					next, answer := impl.Step(w, c)
					if (answer.Code == 9) != want {
						t.Errorf("world of %d, %v: %v", n, c, answer)
					}
					if want {
						checkNine(t, fmt.Sprint("world of ", n), w, c)
					}
					if fault := worldFault(next); fault != "" {
						t.Errorf("world of %d, %v: %s", n, c, fault)
					}
				}
			}
		}
	}
}

func TestStepsOfAnyWorld(t *testing.T) {
	d := &dice{state: 121}
	seen := map[string]int{}
	for i := range 3000 {
		n := 1 + i%4
		w := diceWorld(t, d, n)
		line := diceLine(d, n)
		_, answer := checkStep(t, w, line)
		word, _, _ := strings.Cut(line, " ")
		seen[fmt.Sprint(word, " ", answer.Code)]++
		for _, code := range answer.Codes {
			seen[fmt.Sprint("Codes ", code)]++
		}
	}
	for _, want := range []string{
		"put 0", "put 2", "put 4", "on 0", "on 2", "on 4", "off 0", "off 2", "remove 0", "remove 2", "read 0", "flag 0", "flag 1", "keys 0", "sum 0", "hello 0", "hello 4", "whole 0", "whole 4",
		"flush 0", "flush 1", "flush 4", "deliver 0", "deliver 4", "drop 0", "drop 1", "dup 0", "dup 1", "dup 4", "turn 0", "turn 1", "flip 0", "flip 1", "reset 0", "reset 9", "Codes 0", "Codes 2", "Codes 3",
	} {
		if seen[want] == 0 {
			t.Errorf("the dice never gave %s", want)
		}
	}
}

// walk does lines of the dice in a world from its start, and keeps what each pipe has given since its last reset.
type walk struct {
	world impl.World
	given map[[2]int][]byte
	codes map[[2]int]int
}

func (k *walk) note(line string, was impl.World, answer impl.Answer) {
	c, _ := readLine(line)
	pair := [2]int{c.A, c.B}
	if answer.Code == 9 {
		return
	}
	switch c.Word {
	case "reset":
		delete(k.given, pair)
		delete(k.codes, pair)
	case "deliver":
		k.given[pair] = append(k.given[pair], modelOfWorld(was).pipes[pair].take(c.N)...)
		k.codes[pair] += len(answer.Codes)
	}
}

// checkFed is promise 12's last part: the decoder and the number of codes are those of Feed of all the bytes at once.
func (k *walk) checkFed(t *testing.T, line string) {
	t.Helper()
	for _, p := range k.world.Pipes {
		pair := [2]int{p.From, p.To}
		dec, frames := impl.Feed(impl.Decoder{}, k.given[pair])
		if !sameDecoder(p.Dec, dec) || len(frames) != k.codes[pair] {
			t.Errorf("%q: the pipe %v has %v and gave %d codes; Feed has %v and %d frames", line, pair, p.Dec, k.codes[pair], dec, len(frames))
		}
	}
}

func TestWalksOfWorlds(t *testing.T) {
	d := &dice{state: 122}
	for i := range 24 {
		n := 1 + i%8
		k := &walk{mustWorld(t, n), map[[2]int][]byte{}, map[[2]int]int{}}
		for range 120 {
			line := diceLine(d, n)
			next, answer := checkStep(t, k.world, line)
			k.note(line, k.world, answer)
			k.world = next
			k.checkFed(t, line)
		}
	}
}

func TestReadingInAWorld(t *testing.T) {
	w, answers := play(t, mustWorld(t, 8), "put 7 k b", "put 6 k a", "on 7 k", "on 7 k/f", "put 7 k/g/h x", "flush 6 7", "deliver 6 7 999", "read 7 k", "flag 7 k", "flag 7 k/g", "flag 6 k", "keys 7", "keys 7 k", "keys 7 k/g/h", "read 7 z", "read 5 k", "keys 5", "sum 5", "sum 4", "sum 7")
	if v := answers[7]; !slices.Equal(v.Values, []string{"a", "b"}) || v.Code != 0 {
		t.Errorf("read: %v", v)
	}
	if answers[8].Code != 1 || answers[9].Code != 0 || answers[10].Code != 0 {
		t.Errorf("flags: %v %v %v", answers[8], answers[9], answers[10])
	}
	top := []impl.Key{{Name: "k", Kind: impl.KindReg}, {Name: "k", Kind: impl.KindFlag}, {Name: "k", Kind: impl.KindMap}}
	under := []impl.Key{{Name: "f", Kind: impl.KindFlag}, {Name: "g", Kind: impl.KindMap}}
	if !slices.Equal(answers[11].Keys, top) || !slices.Equal(answers[12].Keys, under) || len(answers[13].Keys) != 0 {
		t.Errorf("keys: %v %v %v", answers[11], answers[12], answers[13])
	}
	for i := 14; i < 17; i++ {
		if !sameAnswer(answers[i], impl.Answer{}) {
			t.Errorf("nothing is there: %v", answers[i])
		}
	}
	empty := impl.Digest([]byte{0, 0})
	if answers[17].Sum != empty || answers[18].Sum != empty || answers[19].Sum == empty || answers[19].Sum != impl.Digest(spelled(w.Reps[7].State)) {
		t.Errorf("sums: %v %v %v", answers[17], answers[18], answers[19])
	}
}

// The codes of a change are those of Do; 1 and 5 can't be.
func TestChangesInAWorld(t *testing.T) {
	w := mustWorld(t, 2)
	w.Reps[0].State = fullState(t, impl.MaxPayload)
	w.Reps[1].State = stateOf(runsOf(1, 1, impl.MaxSeq), regLeaf("a", 1, 1, "v"), flagLeaf("a", 1, 2))
	w.Reps[1].Delta = stateOf(lonely(2, 1, impl.MaxRuns))
	for _, c := range []struct {
		line string
		code int
	}{
		{"put 0 z v", 4}, {"on 0 z", 4}, {"put 0 mA/a v", 0}, {"off 0 z", 0}, {"remove 0 mA", 0}, {"put 0 a/b/c/d/e/f/g/h/i v", 2},
		{"put 1 a v", 3}, {"on 1 a", 3}, {"off 1 a", 4}, {"remove 1 a", 4}, {"off 1 b", 0}, {"remove 1 b", 0}, {"on 1 1/2/3/4/5/6/7/8/9", 2},
	} {
		cmd := lineCmd(t, c.line)
		next, answer := impl.Step(w, cmd)
		kinds := map[string]int{"put": impl.OpPut, "on": impl.OpOn, "off": impl.OpOff, "remove": impl.OpRemove}
		want, wantCode := impl.Do(w.Reps[cmd.A], impl.Op{Kind: kinds[cmd.Word], Path: cmd.Path, Value: cmd.Value})
		if !sameAnswer(answer, onlyCode(c.code)) || wantCode != c.code || !sameReplica(next.Reps[cmd.A], want) || !sameReplica(next.Reps[1-cmd.A], w.Reps[1-cmd.A]) {
			t.Errorf("%q: %v", c.line, answer)
		}
		if code := answer.Code; code != 0 && !sameWorld(next, w) {
			t.Errorf("%q: code %d, and the world is another", c.line, code)
		}
	}
}
