package tests

import (
	"bytes"
	"encoding/binary"
	"fmt"
	"slices"
	"strings"
	"testing"

	"loop.example/s02772/impl"
)

// modelPipe is a pipe by itself, found by its ends and not by a place in a list.
type modelPipe struct {
	msgs [][]byte
	dec  impl.Decoder
}

// modelWorld does commands by the document's words, with the test's own frames, sums, decoder and sets.
type modelWorld struct {
	reps  []impl.Replica
	pipes map[[2]int]*modelPipe
}

func modelOfWorld(w impl.World) *modelWorld {
	own := roomyWorld(w)
	m := &modelWorld{own.Reps, map[[2]int]*modelPipe{}}
	for _, p := range own.Pipes {
		m.pipes[[2]int{p.From, p.To}] = &modelPipe{p.Msgs, p.Dec}
	}
	return m
}

func (m *modelWorld) world() impl.World {
	w := impl.World{Reps: m.reps}
	for from := range m.reps {
		for to := range m.reps {
			if p, there := m.pipes[[2]int{from, to}]; there {
				w.Pipes = append(w.Pipes, impl.Pipe{From: from, To: to, Msgs: p.msgs, Dec: p.dec})
			}
		}
	}
	return w
}

func (p *modelPipe) put(msg []byte) int {
	if len(slices.Concat(p.msgs...))+len(msg) > impl.MaxPending {
		return 4
	}
	p.msgs = append(p.msgs, slices.Clone(msg))
	return 0
}

// take goes byte by byte.
func (p *modelPipe) take(n int) []byte {
	var chunk []byte
	var left [][]byte
	for _, msg := range p.msgs {
		var rest []byte
		for _, b := range msg {
			if len(chunk) < n {
				chunk = append(chunk, b)
			} else {
				rest = append(rest, b)
			}
		}
		if len(rest) > 0 {
			left = append(left, rest)
		}
	}
	p.msgs = left
	return chunk
}

// flip goes by where the byte is in all of them laid end to end.
func (p *modelPipe) flip(n int, x int) int {
	all := slices.Concat(p.msgs...)
	if n >= len(all) {
		return 1
	}
	all[n] ^= byte(x)
	at := 0
	for i, msg := range p.msgs {
		p.msgs[i] = slices.Clone(all[at : at+len(msg)])
		at += len(msg)
	}
	return 0
}

func (p *modelPipe) first(word string) int {
	if len(p.msgs) == 0 {
		return 1
	}
	first, others := p.msgs[0], p.msgs[1:]
	switch word {
	case "drop":
		p.msgs = others
	case "turn":
		p.msgs = slices.Concat(others, [][]byte{first})
	case "dup":
		return p.put(first)
	}
	return 0
}

func modelOfFeed(d impl.Decoder, chunk []byte) (impl.Decoder, []impl.Frame) {
	if d.Failed != 0 {
		return d, nil
	}
	next, frames := readWhole(slices.Concat(d.Buf, chunk))
	next.Taken += d.Taken
	return next, frames
}

func modelOfHandle(r impl.Replica, f impl.Frame) (impl.Replica, []impl.Frame, int) {
	if f.Kind == impl.FrameHello {
		switch {
		case len(f.Payload) != 8:
			return r, nil, 2
		case bytes.Equal(f.Payload, helloFrame(r.State).Payload):
			return r, nil, 0
		}
		return r, []impl.Frame{stateFrame(impl.FrameWhole, r.State)}, 0
	}
	s, code := impl.GetState(f.Payload)
	if code != 0 {
		return r, nil, 2
	}
	next, code := modelOfTaking(r, s)
	return next, nil, code
}

func rightPath(path []string) bool {
	for _, name := range path {
		if len(name) < 1 || len(name) > 40 {
			return false
		}
	}
	return len(path) >= 1 && len(path) <= 8
}

func (m *modelWorld) change(kind int, c impl.Cmd) impl.Answer {
	if !rightPath(c.Path) || len(c.Value) > 200 {
		return onlyCode(2)
	}
	next, code := modelOfDo(m.reps[c.A], impl.Op{Kind: kind, Path: c.Path, Value: c.Value})
	m.reps[c.A] = next
	return onlyCode(code)
}

func (m *modelWorld) ask(c impl.Cmd) impl.Answer {
	s := m.reps[c.A].State
	switch {
	case c.Word == "sum":
		return impl.Answer{Sum: binary.BigEndian.Uint64(helloFrame(s).Payload)}
	case c.Word == "keys" && (len(c.Path) == 0 || rightPath(c.Path)):
		return impl.Answer{Keys: keysOf(s, c.Path)}
	case c.Word == "read" && rightPath(c.Path):
		return impl.Answer{Values: valuesOf(s, c.Path)}
	case c.Word == "flag" && flagOf(s, c.Path):
		return onlyCode(1)
	}
	return impl.Answer{}
}

func (m *modelWorld) send(from int, to int, f impl.Frame) int {
	return m.pipes[[2]int{from, to}].put(frameBytes(byte(f.Kind), string(f.Payload)))
}

func (m *modelWorld) flush(c impl.Cmd) int {
	r := &m.reps[c.A]
	if nothingIn(r.Delta) {
		return 1
	}
	code := m.send(c.A, c.B, stateFrame(impl.FrameDelta, r.Delta))
	if code == 0 {
		r.Delta = impl.State{}
	}
	return code
}

func (m *modelWorld) deliver(c impl.Cmd) impl.Answer {
	p := m.pipes[[2]int{c.A, c.B}]
	dec, frames := modelOfFeed(p.dec, p.take(c.N))
	p.dec = dec
	var answer impl.Answer
	for _, f := range frames {
		next, replies, code := modelOfHandle(m.reps[c.B], f)
		m.reps[c.B] = next
		answer.Codes = append(answer.Codes, code)
		for _, reply := range replies {
			if m.send(c.B, c.A, reply) == 4 {
				answer.Code = 4
			}
		}
	}
	return answer
}

func (m *modelWorld) step(c impl.Cmd) impl.Answer {
	n := len(m.reps)
	if c.A >= n || c.B >= n || meansPipe(c.Word) && c.A == c.B {
		return onlyCode(9)
	}
	p := m.pipes[[2]int{c.A, c.B}]
	switch c.Word {
	case "put":
		return m.change(impl.OpPut, c)
	case "on":
		return m.change(impl.OpOn, c)
	case "off":
		return m.change(impl.OpOff, c)
	case "remove":
		return m.change(impl.OpRemove, c)
	case "hello":
		return onlyCode(m.send(c.A, c.B, helloFrame(m.reps[c.A].State)))
	case "whole":
		return onlyCode(m.send(c.A, c.B, stateFrame(impl.FrameWhole, m.reps[c.A].State)))
	case "flush":
		return onlyCode(m.flush(c))
	case "deliver":
		return m.deliver(c)
	case "drop", "dup", "turn":
		return onlyCode(p.first(c.Word))
	case "flip":
		return onlyCode(p.flip(c.N, c.X))
	case "reset":
		*p = modelPipe{}
		return onlyCode(0)
	}
	return m.ask(c)
}

// modelOfStep is for valid worlds and commands of lines, where replicas have a NextDot.
func modelOfStep(w impl.World, c impl.Cmd) (impl.World, impl.Answer) {
	m := modelOfWorld(w)
	answer := m.step(c)
	return m.world(), answer
}

// checkStep holds a line's command against the model.
func checkStep(t *testing.T, w impl.World, line string) (impl.World, impl.Answer) {
	t.Helper()
	c := lineCmd(t, line)
	want, wantAnswer := modelOfStep(w, c)
	next, answer := impl.Step(w, c)
	if !sameAnswer(answer, wantAnswer) {
		t.Errorf("%q: the answer is %v, not %v", line, answer, wantAnswer)
	}
	if !sameWorld(next, want) {
		t.Errorf("%q: the world is another: %v, not %v", line, shortly(next), shortly(want))
	}
	if fault := worldFault(next); fault != "" {
		t.Errorf("%q: the world is not valid any more: %s", line, fault)
	}
	if answer.Code == 9 && !sameWorld(next, w) {
		t.Errorf("%q: Code 9, and the world is another", line)
	}
	return next, answer
}

func shortly(w impl.World) string {
	text := fmt.Sprint(w)
	return text[:min(len(text), 2000)]
}

// play does lines one after the other and gives the answers.
func play(t *testing.T, w impl.World, lines ...string) (impl.World, []impl.Answer) {
	t.Helper()
	var answers []impl.Answer
	for _, line := range lines {
		next, answer := checkStep(t, w, line)
		w = next
		answers = append(answers, answer)
	}
	return w, answers
}

// playFor is play with the codes that the lines are to have.
func playFor(t *testing.T, w impl.World, codes []int, lines ...string) (impl.World, []impl.Answer) {
	t.Helper()
	next, answers := play(t, w, lines...)
	for i, answer := range answers {
		if answer.Code != codes[i] {
			t.Errorf("%q: code %d, not %d", lines[i], answer.Code, codes[i])
		}
	}
	return next, answers
}

// dicePath is seldom one that is not right.
func dicePath(d *dice) string {
	switch d.below(30) {
	case 0:
		return "1/2/3/4/5/6/7/8/9"
	case 1:
		return strings.Repeat("n", 41)
	case 2:
		return strings.Repeat("n", 40) + "/\x80\r\x00"
	}
	return dicePlace(d)
}

func diceWord(d *dice) string {
	return []string{"v", "w", "vv", "/", "\r", "\xff", strings.Repeat("v", 200), strings.Repeat("v", 201)}[d.below(8)]
}

// diceLine is for a world of n replicas; a few have Code 9 there.
func diceLine(d *dice, n int) string {
	word := []string{"put", "on", "off", "remove", "read", "flag", "keys", "sum", "hello", "whole", "flush", "deliver", "deliver", "deliver", "drop", "dup", "turn", "flip", "reset"}[d.below(19)]
	a, b := d.below(n), d.below(n)
	if a == b && d.below(8) > 0 {
		b = (a + 1) % n
	}
	if d.below(40) == 0 {
		a = d.below(8)
	}
	line := fmt.Sprint(word, " ", a)
	if meansPipe(word) {
		line += fmt.Sprint(" ", b)
	}
	switch word {
	case "put":
		line += " " + dicePath(d) + " " + diceWord(d)
	case "on", "off", "remove", "read", "flag":
		line += " " + dicePath(d)
	case "keys":
		if d.below(2) == 0 {
			line += " " + dicePath(d)
		}
	case "deliver":
		line += fmt.Sprint(" ", []int{0, 1, d.below(20), d.below(200), 16, 99999, 99999}[d.below(7)])
	case "flip":
		line += fmt.Sprint(" ", []int{0, d.below(20), d.below(200), 99999}[d.below(4)], " ", d.below(256))
	}
	return line
}

// diceMessage is the bytes of a frame, some of them edited, or noise.
func diceMessage(d *dice) []byte {
	msg := streamOf(stateFrame(2+d.below(2), diceState(d)))
	switch d.below(6) {
	case 0:
		msg = streamOf(helloFrame(diceState(d)))
	case 1:
		msg = streamOf(frameOf(1+d.below(3), "payload"))
	case 2:
		msg = edited(d, msg)
	case 3:
		msg = msg[:1+d.below(len(msg))]
	}
	return msg
}

// diceDecoder need not have come from feeding.
func diceDecoder(d *dice) impl.Decoder {
	msg := diceMessage(d)
	switch d.below(6) {
	case 0:
		return impl.Decoder{Buf: msg[:d.below(len(msg))], Taken: d.below(999)}
	case 1:
		return impl.Decoder{Buf: msg, Taken: -d.below(999)}
	case 2:
		return impl.Decoder{Taken: d.below(999), Failed: 1 + d.below(5)}
	case 3:
		return impl.Decoder{Buf: msg, Taken: 7, Failed: -1}
	}
	return impl.Decoder{}
}

func diceMessages(d *dice) [][]byte {
	var msgs [][]byte
	for range d.below(4) {
		msgs = append(msgs, diceMessage(d))
	}
	if d.below(5) == 0 {
		room := impl.MaxPending - len(slices.Concat(msgs...)) - d.below(40)
		msgs = append(msgs, make([]byte, room))
	}
	return msgs
}

// diceWorld is valid, and no script need lead to it.
func diceWorld(t *testing.T, d *dice, n int) impl.World {
	t.Helper()
	w := mustWorld(t, n)
	for i := range w.Reps {
		w.Reps[i] = diceReplica(d)
		if d.below(4) == 0 {
			w.Reps[i] = diceFullReplica(t, d)
		}
		if d.below(4) == 0 {
			w.Reps[i].Delta = impl.State{}
		}
		w.Reps[i].Id = i
	}
	for i := range w.Pipes {
		w.Pipes[i].Msgs = diceMessages(d)
		w.Pipes[i].Dec = diceDecoder(d)
	}
	return w
}
