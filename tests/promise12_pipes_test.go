package tests

import (
	"bytes"
	"fmt"
	"runtime"
	"slices"
	"strings"
	"sync"
	"testing"
	"time"

	"loop.example/s02772/impl"
)

// pipeOf is found by its ends.
func pipeOf(t *testing.T, w impl.World, from int, to int) impl.Pipe {
	t.Helper()
	for _, p := range w.Pipes {
		if p.From == from && p.To == to {
			return p
		}
	}
	t.Fatalf("no pipe from %d to %d", from, to)
	return impl.Pipe{}
}

// withMessages is the world with other messages in one pipe.
func withMessages(w impl.World, from int, to int, msgs ...[]byte) impl.World {
	return turned(w, func(w *impl.World) {
		for i, p := range w.Pipes {
			if p.From == from && p.To == to {
				w.Pipes[i].Msgs = msgs
			}
		}
	})
}

func bytesIn(t *testing.T, w impl.World, from int, to int) int {
	t.Helper()
	return len(slices.Concat(pipeOf(t, w, from, to).Msgs...))
}

// Each message goes into its own pipe, as the bytes of its frame.
func TestMessagesOfReplicas(t *testing.T) {
	for from := range 4 {
		for to := range 4 {
			if from == to {
				continue
			}
			change, ends := fmt.Sprint(" ", from, " a/b v"), fmt.Sprint(" ", from, " ", to)
			was, _ := play(t, mustWorld(t, 4), "put"+change)
			w, _ := playFor(t, was, []int{0, 0, 0, 1}, "hello"+ends, "whole"+ends, "flush"+ends, "flush"+ends)
			r := was.Reps[from]
			want := [][]byte{streamOf(helloFrame(r.State)), streamOf(stateFrame(impl.FrameWhole, r.State)), streamOf(stateFrame(impl.FrameDelta, r.Delta))}
			for _, p := range w.Pipes {
				here := p.From == from && p.To == to
				if here && !slices.EqualFunc(p.Msgs, want, bytes.Equal) || !here && len(p.Msgs) != 0 {
					t.Errorf("from %d to %d: the pipe from %d to %d has %v", from, to, p.From, p.To, p.Msgs)
				}
			}
			if !nothingIn(w.Reps[from].Delta) || !sameState(w.Reps[from].State, r.State) {
				t.Errorf("replica %d: %v", from, w.Reps[from])
			}
		}
	}
}

func TestDeliverOfEveryNumberOfBytes(t *testing.T) {
	w, _ := play(t, mustWorld(t, 2), "put 0 k a", "put 1 m b", "whole 0 1", "hello 0 1", "hello 0 1")
	msgs := pipeOf(t, w, 0, 1).Msgs
	all := slices.Concat(msgs...)
	end, _ := play(t, w, "deliver 0 1 99999")
	if len(pipeOf(t, end, 1, 0).Msgs) != 2 {
		t.Fatalf("the replies are %v", pipeOf(t, end, 1, 0).Msgs)
	}
	for n := 0; n <= len(all)+3; n++ {
		next, answers := play(t, w, fmt.Sprint("deliver 0 1 ", n))
		taken := min(n, len(all))
		frames, begun := 0, 0
		for begun = taken; frames < len(msgs) && begun >= len(msgs[frames]); frames++ {
			begun -= len(msgs[frames])
		}
		p := pipeOf(t, next, 0, 1)
		if len(answers[0].Codes) != frames || len(p.Dec.Buf) != begun || p.Dec.Taken != taken-begun || !bytes.Equal(slices.Concat(p.Msgs...), all[taken:]) {
			t.Errorf("%d bytes: %v, %d in Buf, %d taken", n, answers[0], len(p.Dec.Buf), p.Dec.Taken)
		}
		left := len(msgs) - frames
		if len(p.Msgs) != left {
			t.Errorf("%d bytes: %d messages left, not %d", n, len(p.Msgs), left)
		}
		if rest, _ := play(t, next, "deliver 0 1 99999"); !sameWorld(rest, end) {
			t.Errorf("%d bytes and then the others end elsewhere", n)
		}
	}
}

func TestDeliverByteByByte(t *testing.T) {
	w, _ := play(t, mustWorld(t, 2), "put 0 k a", "whole 0 1", "hello 0 1", "dup 0 1")
	end, all := play(t, w, "deliver 0 1 99999")
	var codes []int
	for bytesIn(t, w, 0, 1) > 0 {
		next, answers := play(t, w, "deliver 0 1 1")
		codes = append(codes, answers[0].Codes...)
		w = next
	}
	if !sameWorld(w, end) || !slices.Equal(codes, all[0].Codes) || len(codes) != 3 {
		t.Errorf("byte by byte: %v, at once: %v", codes, all[0].Codes)
	}
}

// All of MaxPending bytes can't be taken at once, as N has five digits.
func TestDeliverOfAFullPipe(t *testing.T) {
	start, _ := play(t, mustWorld(t, 2), "put 1 a "+strings.Repeat("v", impl.MaxText))
	w := withMessages(start, 0, 1, slices.Repeat(frameBytes(1, "12345678"), impl.MaxPending/16))
	next, answers := play(t, w, "deliver 0 1 99999")
	if bytesIn(t, next, 0, 1) != 1 || len(answers[0].Codes) != impl.MaxPending/16-1 || answers[0].Code != 4 {
		t.Errorf("%d bytes left, %d codes, code %d", bytesIn(t, next, 0, 1), len(answers[0].Codes), answers[0].Code)
	}
	next, answers = play(t, next, "deliver 0 1 1")
	if len(answers[0].Codes) != 1 || bytesIn(t, next, 0, 1) != 0 {
		t.Errorf("%v", answers[0])
	}
}

// A decoder that was handed in may have frames in Buf, which a chunk without bytes brings out.
func TestDeliverOfNoBytes(t *testing.T) {
	for _, line := range []string{"deliver 0 1 0", "deliver 0 1 99999"} {
		w := mustWorld(t, 2)
		w.Pipes[0].Dec.Buf = slices.Concat(frameBytes(1, "12345678"), frameBytes(2, "\x00\x00"), frameBytes(3, "x"), []byte{199})
		next, answers := play(t, w, line)
		if !slices.Equal(answers[0].Codes, []int{0, 0, 2}) || len(next.Pipes[0].Dec.Buf) != 1 || len(next.Pipes[1].Msgs) != 1 {
			t.Errorf("%q: %v", line, answers[0])
		}
		empty, answers := play(t, mustWorld(t, 2), line)
		if !sameAnswer(answers[0], impl.Answer{}) || !sameWorld(empty, mustWorld(t, 2)) {
			t.Errorf("%q of nothing: %v", line, answers[0])
		}
	}
	w, _ := play(t, mustWorld(t, 2), "hello 0 1")
	if next, _ := play(t, w, "deliver 0 1 0"); !sameWorld(next, w) {
		t.Errorf("no bytes of a message change the world")
	}
}

// What a decoder that has failed is given is gone, until a reset.
func TestDecodersThatHaveFailed(t *testing.T) {
	for _, c := range []struct {
		at     int
		x      int
		failed int
	}{{0, 1, 1}, {1, 2, 2}, {2, 255, 3}, {5, 7, 5}, {15, 128, 5}, {16, 1, 1}, {17, 1, 2}, {18, 16, 3}, {31, 1, 5}} {
		flip := fmt.Sprint("flip 0 1 ", c.at, " ", c.x)
		w, answers := play(t, mustWorld(t, 2), "put 1 a v", "hello 0 1", "hello 0 1", flip, "whole 0 1", "deliver 0 1 99999")
		good := c.at / 16
		dec := pipeOf(t, w, 0, 1).Dec
		if dec.Failed != c.failed || dec.Taken != 16*good || len(answers[5].Codes) != good {
			t.Errorf("%q: %v and %v", flip, dec, answers[5])
		}
		w, answers = play(t, w, "hello 0 1", "whole 0 1", "deliver 0 1 20", "deliver 0 1 99999", "deliver 0 1 0")
		for _, answer := range answers {
			if !sameAnswer(answer, impl.Answer{}) {
				t.Errorf("%q: a failed decoder gives %v", flip, answer)
			}
		}
		if bytesIn(t, w, 0, 1) != 0 || !sameDecoder(pipeOf(t, w, 0, 1).Dec, dec) {
			t.Errorf("%q: %v", flip, pipeOf(t, w, 0, 1))
		}
		_, answers = play(t, w, "hello 0 1", "reset 0 1", "hello 0 1", "deliver 0 1 99999")
		if len(answers[3].Codes) != 1 {
			t.Errorf("%q: after a reset %v", flip, answers[3])
		}
	}
}

func TestReplies(t *testing.T) {
	w, _ := play(t, mustWorld(t, 3), "put 0 a v", "put 1 b w", "hello 0 1", "hello 1 0", "whole 1 0", "hello 1 0", "hello 2 0")
	only, there := w.Reps[0].State, pipeOf(t, w, 0, 1).Msgs
	next, answers := play(t, w, "deliver 1 0 99999")
	both := mustJoin(t, w.Reps[0].State, w.Reps[1].State)
	want := slices.Concat(there, [][]byte{streamOf(stateFrame(impl.FrameWhole, only)), streamOf(stateFrame(impl.FrameWhole, both))})
	if !slices.EqualFunc(pipeOf(t, next, 0, 1).Msgs, want, bytes.Equal) || !slices.Equal(answers[0].Codes, []int{0, 0, 0}) || answers[0].Code != 0 {
		t.Errorf("%v %v", answers[0], pipeOf(t, next, 0, 1).Msgs)
	}
	if len(pipeOf(t, next, 0, 2).Msgs) != 0 || len(pipeOf(t, next, 2, 0).Msgs) != 1 || !sameState(next.Reps[0].State, both) {
		t.Errorf("another pipe was touched")
	}
	_, answers = play(t, mustWorld(t, 2), "hello 0 1", "deliver 0 1 99999", "deliver 1 0 99999", "drop 1 0")
	if !slices.Equal(answers[1].Codes, []int{0}) || len(answers[2].Codes) != 0 || answers[3].Code != 1 {
		t.Errorf("the same State gets a reply: %v", answers)
	}
}

// Codes has a code for each frame, whatever it is, and one that is refused does not stop those behind it.
func TestCodesOfHandle(t *testing.T) {
	w := mustWorld(t, 2)
	w.Reps[1].State = fullState(t, impl.MaxPayload)
	more := stateFrame(impl.FrameDelta, stateOf(runsOf(1, 1, 1), regLeaf("z", 1, 1, "v")))
	less := stateFrame(impl.FrameWhole, stateOf(runsOf(0, 1, 1)))
	w = withMessages(w, 0, 1, streamOf(frameOf(1, "short"), more, frameOf(2, ""), less, more, frameOf(3, "x"), helloFrame(impl.State{})))
	next, answers := play(t, w, "deliver 0 1 99999")
	if !slices.Equal(answers[0].Codes, []int{2, 3, 2, 0, 0, 2, 0}) || answers[0].Code != 0 || len(pipeOf(t, next, 1, 0).Msgs) != 1 {
		t.Errorf("%v", answers[0])
	}
	w = turned(w, func(w *impl.World) { w.Pipes[0].Dec.Failed = 5 })
	if _, answers = play(t, w, "deliver 0 1 99999"); len(answers[0].Codes) != 0 {
		t.Errorf("%v", answers[0])
	}
}

func TestRoomForMessages(t *testing.T) {
	start, _ := play(t, mustWorld(t, 2), "put 0 a v", "on 0 b/c")
	for _, line := range []string{"hello 0 1", "whole 0 1", "flush 0 1"} {
		sent, _ := play(t, start, line)
		size := bytesIn(t, sent, 0, 1)
		for _, parts := range [][]int{{}, {1}, {impl.MaxPending / 2, 7}} {
			msgs := [][]byte{}
			room := impl.MaxPending - size
			for _, part := range parts {
				msgs = append(msgs, make([]byte, part))
				room -= part
			}
			at := withMessages(start, 0, 1, append(slices.Clone(msgs), make([]byte, room))...)
			above := withMessages(start, 0, 1, append(slices.Clone(msgs), make([]byte, room+1))...)
			next, _ := playFor(t, at, []int{0}, line)
			if bytesIn(t, next, 0, 1) != impl.MaxPending {
				t.Errorf("%q: %d bytes", line, bytesIn(t, next, 0, 1))
			}
			if stays, _ := playFor(t, next, []int{4}, "hello 0 1"); !sameWorld(stays, next) {
				t.Errorf("%q: no room changes the world", line)
			}
			if stays, _ := playFor(t, above, []int{4}, line); !sameWorld(stays, above) {
				t.Errorf("%q: one byte above changes the world", line)
			}
		}
	}
}

func TestRoomForCopies(t *testing.T) {
	for _, size := range []int{1, 16, 1000, impl.MaxPending / 2} {
		for over := range 2 {
			msgs := [][]byte{bytes.Repeat([]byte{9}, size)}
			if rest := impl.MaxPending - 2*size + over; rest > 0 {
				msgs = append(msgs, make([]byte, rest))
			}
			w := withMessages(mustWorld(t, 3), 2, 0, msgs...)
			next, _ := playFor(t, w, []int{4 * over}, "dup 2 0")
			if over == 1 && !sameWorld(next, w) || over == 0 && bytesIn(t, next, 2, 0) != impl.MaxPending {
				t.Errorf("%d bytes, %d over: %d bytes", size, over, bytesIn(t, next, 2, 0))
			}
		}
	}
	full := withMessages(mustWorld(t, 2), 0, 1, make([]byte, impl.MaxPending))
	playFor(t, full, []int{4, 0, 0, 4, 0, 1}, "dup 0 1", "turn 0 1", "flip 0 1 99999 7", "hello 0 1", "drop 0 1", "dup 0 1")
}

// With no room A keeps its Delta, and sends it when there is some.
func TestFlushWithoutRoom(t *testing.T) {
	start, _ := play(t, mustWorld(t, 2), "put 0 a v")
	full := withMessages(start, 0, 1, make([]byte, impl.MaxPending-1))
	next, _ := playFor(t, full, []int{4, 4, 0, 0, 1}, "flush 0 1", "flush 0 1", "drop 0 1", "flush 0 1", "flush 0 1")
	if !nothingIn(next.Reps[0].Delta) || !bytes.Equal(pipeOf(t, next, 0, 1).Msgs[0], streamOf(stateFrame(impl.FrameDelta, start.Reps[0].Delta))) {
		t.Errorf("%v", next)
	}
	// nothing to flush is told ahead of no room
	empty := withMessages(mustWorld(t, 2), 0, 1, make([]byte, impl.MaxPending))
	if stays, _ := playFor(t, empty, []int{1}, "flush 0 1"); !sameWorld(stays, empty) {
		t.Errorf("%v", stays)
	}
}

func TestRepliesWithoutRoom(t *testing.T) {
	start, _ := play(t, mustWorld(t, 2), "put 0 a v", "hello 1 0")
	reply := len(streamOf(stateFrame(impl.FrameWhole, start.Reps[0].State)))
	at := withMessages(start, 0, 1, make([]byte, impl.MaxPending-reply))
	next, answers := playFor(t, at, []int{0}, "deliver 1 0 99999")
	if bytesIn(t, next, 0, 1) != impl.MaxPending || !slices.Equal(answers[0].Codes, []int{0}) {
		t.Errorf("%v", answers[0])
	}
	above := withMessages(start, 0, 1, make([]byte, impl.MaxPending-reply+1))
	next, answers = playFor(t, above, []int{4}, "deliver 1 0 99999")
	if len(pipeOf(t, next, 0, 1).Msgs) != 1 || !slices.Equal(answers[0].Codes, []int{0}) || bytesIn(t, next, 1, 0) != 0 {
		t.Errorf("%v", answers[0])
	}
	// a whole between two hellos takes a leaf back, so that the second reply finds the room that the first one did not
	hello, less := streamOf(helloFrame(impl.State{})), streamOf(stateFrame(impl.FrameWhole, stateOf(runsOf(0, 1, 1))))
	short := streamOf(stateFrame(impl.FrameWhole, stateOf(runsOf(0, 1, 1))))
	for _, more := range [][][]byte{nil, {hello}} {
		w := withMessages(above, 1, 0, slices.Concat([][]byte{hello, less, hello}, more)...)
		next, answers = playFor(t, w, []int{4}, "deliver 1 0 99999")
		if msgs := pipeOf(t, next, 0, 1).Msgs; len(msgs) != 2 || !bytes.Equal(msgs[1], short) || len(answers[0].Codes) != 3+len(more) {
			t.Errorf("%d messages, %v", len(msgs), answers[0])
		}
	}
}

func TestMessagesMoved(t *testing.T) {
	one, two, three := []byte("one"), []byte("second"), []byte("3")
	for _, c := range []struct {
		line string
		code int
		was  [][]byte
		is   [][]byte
	}{
		{"drop 1 0", 1, nil, nil},
		{"dup 1 0", 1, nil, nil},
		{"turn 1 0", 1, nil, nil},
		{"flip 1 0 0 1", 1, nil, nil},
		{"reset 1 0", 0, nil, nil},
		{"drop 1 0", 0, [][]byte{one}, nil},
		{"dup 1 0", 0, [][]byte{one}, [][]byte{one, one}},
		{"turn 1 0", 0, [][]byte{one}, [][]byte{one}},
		{"flip 1 0 0 1", 0, [][]byte{one}, [][]byte{[]byte("nne")}},
		{"reset 1 0", 0, [][]byte{one}, nil},
		{"drop 1 0", 0, [][]byte{one, two, three}, [][]byte{two, three}},
		{"dup 1 0", 0, [][]byte{one, two, three}, [][]byte{one, two, three, one}},
		{"turn 1 0", 0, [][]byte{one, two, three}, [][]byte{two, three, one}},
		{"flip 1 0 3 32", 0, [][]byte{one, two, three}, [][]byte{one, []byte("Second"), three}},
		{"reset 1 0", 0, [][]byte{one, two, three}, nil},
		{"turn 1 0", 0, [][]byte{one, two}, [][]byte{two, one}},
		{"drop 1 0", 0, [][]byte{three, one}, [][]byte{one}},
	} {
		w := withMessages(busyWorld(t), 1, 0, c.was...)
		next, answers := playFor(t, w, []int{c.code}, c.line)
		if !slices.EqualFunc(pipeOf(t, next, 1, 0).Msgs, c.is, bytes.Equal) || !sameAnswer(answers[0], onlyCode(c.code)) {
			t.Errorf("%q of %q: %q", c.line, c.was, pipeOf(t, next, 1, 0).Msgs)
		}
		if back := withMessages(next, 1, 0, c.was...); !sameWorld(back, w) {
			t.Errorf("%q: more than the messages changed", c.line)
		}
	}
}

// A copy is one: what changes the first does not change the other.
func TestCopiesAreApart(t *testing.T) {
	w, _ := play(t, mustWorld(t, 2), "hello 0 1", "dup 0 1", "flip 0 1 5 255", "turn 0 1", "deliver 0 1 99999")
	if d := pipeOf(t, w, 0, 1).Dec; d.Taken != 16 || d.Failed != 5 {
		t.Errorf("%v", d)
	}
}

func TestFlipAtEveryByte(t *testing.T) {
	msgs := [][]byte{[]byte("ab"), []byte("c"), []byte("def")}
	all := []byte("abcdef")
	for n := range len(all) + 3 {
		for _, x := range []int{0, 1, 128, 255} {
			w := withMessages(mustWorld(t, 2), 1, 0, msgs...)
			code, want := 0, slices.Clone(all)
			if n < len(all) {
				want[n] ^= byte(x)
			} else {
				code = 1
			}
			next, _ := playFor(t, w, []int{code}, fmt.Sprint("flip 1 0 ", n, " ", x))
			p := pipeOf(t, next, 1, 0)
			if !bytes.Equal(slices.Concat(p.Msgs...), want) || len(p.Msgs) != 3 || len(p.Msgs[0]) != 2 || len(p.Msgs[1]) != 1 {
				t.Errorf("byte %d with %d: %q", n, x, p.Msgs)
			}
		}
	}
	full := withMessages(mustWorld(t, 2), 1, 0, make([]byte, 99999), []byte{8})
	playFor(t, full, []int{0, 0}, "flip 1 0 99998 1", "flip 1 0 99999 1")
	part, _ := play(t, mustWorld(t, 2), "hello 0 1", "hello 0 1", "deliver 0 1 20", "flip 0 1 12 1")
	if _, answer := checkStep(t, part, "flip 0 1 11 1"); answer.Code != 0 {
		t.Errorf("the last byte of what is left: %v", answer)
	}
}

// A reset forgets what the decoder had, and touches no other pipe.
func TestReset(t *testing.T) {
	for _, how := range []string{"deliver 0 1 7", "deliver 0 1 16", "flip 0 1 0 1", "drop 0 1"} {
		w, _ := play(t, busyWorld(t), "hello 0 1", "hello 1 0", how, "deliver 0 1 99", "hello 0 1")
		next, answers := play(t, w, "reset 0 1")
		p := pipeOf(t, next, 0, 1)
		if !sameAnswer(answers[0], impl.Answer{}) || len(p.Msgs) != 0 || !sameDecoder(p.Dec, impl.Decoder{}) {
			t.Errorf("%q and a reset: %v %v", how, answers[0], p)
		}
		if again, _ := play(t, next, "reset 0 1"); !sameWorld(again, next) {
			t.Errorf("%q: a second reset changes the world", how)
		}
	}
}

func checkStepApart(t *testing.T, why string, w impl.World, c impl.Cmd) {
	t.Helper()
	w = roomyWorld(w)
	c.Path = roomyPath(c.Path)
	kept, keptPath := worldAsIs(w), pathAsIs(c.Path)
	one, answer := impl.Step(w, c)
	two, other := impl.Step(w, c)
	if worldAsIs(w) != kept || pathAsIs(c.Path) != keptPath {
		t.Errorf("%s, %v: an argument was changed", why, c)
	}
	checkNoSharing(t, fmt.Sprint(why, ", ", c), w, c.Path, one, answer, two, other)
}

// heavy worlds are left out where each byte would be shown as a text.
func heavy(w impl.World) bool {
	return slices.ContainsFunc(w.Pipes, func(p impl.Pipe) bool { return len(slices.Concat(p.Msgs...)) > 9999 })
}

func TestStepsGiveNewMemory(t *testing.T) {
	d := &dice{state: 123}
	for i := range 600 {
		n := 2 + i%3
		if w := diceWorld(t, d, n); !heavy(w) {
			checkStepApart(t, "dice", w, lineCmd(t, diceLine(d, n)))
		}
	}
	w := busyWorld(t)
	for _, line := range append(lineOfEach(), "dup 1 2", "turn 1 2", "drop 1 2", "flip 1 2 3 3", "deliver 1 2 5", "deliver 1 2 999", "deliver 2 0 999", "hello 0 0", "sum 7") {
		checkStepApart(t, "busy", w, lineCmd(t, line))
	}
	for _, bad := range badWorlds(t) {
		if !heavy(bad.world) {
			checkStepApart(t, bad.why, bad.world, lineCmd(t, "hello 0 1"))
		}
	}
}

// settled waits until no more goroutines are there than before.
func settled(before int) bool {
	for range 500 {
		if runtime.NumGoroutine() <= before {
			return true
		}
		time.Sleep(time.Millisecond)
	}
	return false
}

// With one processor, a goroutine that was told to end and not waited for is still there when the call answers.
func TestGoroutinesHaveEnded(t *testing.T) {
	defer runtime.GOMAXPROCS(runtime.GOMAXPROCS(1))
	busy, eight := busyWorld(t), mustWorld(t, 8)
	calls := map[string]func(){
		"an empty script":       func() { impl.RunScript("") },
		"a script that is none": func() { impl.RunScript("world 8\nhello 0 1\nhello") },
		"a script": func() {
			impl.RunScript("world 8\nput 0 a v\nhello 0 1\ndeliver 0 1 5\nreset 0 1\nwhole 0 1\ndeliver 0 1 99999\nreset 7 6\nhello 9 9")
		},
		"a script of resets":   func() { impl.RunScript("world 3" + strings.Repeat("\nreset 0 1\nreset 2 1", 50)) },
		"a world alone":        func() { impl.RunScript("world 8") },
		"a world that is none": func() { impl.Step(impl.World{}, impl.Cmd{Word: "sum"}) },
		"a command that isn't": func() { impl.Step(eight, impl.Cmd{Word: "sums"}) },
		"no such replica":      func() { impl.Step(busy, impl.Cmd{Word: "hello", A: 1, B: 7}) },
	}
	for _, line := range lineOfEach() {
		c := lineCmd(t, line)
		calls[line] = func() { impl.Step(busy, c) }
		calls[line+" of eight"] = func() { impl.Step(eight, c) }
	}
	for why, call := range calls {
		before := runtime.NumGoroutine()
		ended := 0
		for range 20 {
			call()
			if runtime.NumGoroutine() <= before {
				ended++
			}
			if !settled(before) {
				t.Fatalf("%s: goroutines are left", why)
			}
		}
		if ended == 0 {
			t.Errorf("%s: the call does not wait for its goroutines", why)
		}
	}
}

// Calls at the same time have nothing in common, even with the same argument.
func TestStepsAtTheSameTime(t *testing.T) {
	w := busyWorld(t)
	lines := append(lineOfEach(), "deliver 1 2 99999", "deliver 0 1 99999", "deliver 2 0 30")
	var all sync.WaitGroup
	for _, line := range lines {
		c := lineCmd(t, line)
		want, wantAnswer := impl.Step(w, c)
		for range 4 {
			all.Go(func() {
				for range 20 {
					if next, answer := impl.Step(w, c); !sameWorld(next, want) || !sameAnswer(answer, wantAnswer) {
						t.Errorf("%q: %v, not %v", line, answer, wantAnswer)
					}
				}
			})
		}
	}
	all.Wait()
}
