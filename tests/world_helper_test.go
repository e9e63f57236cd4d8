package tests

import (
	"bytes"
	"fmt"
	"math"
	"reflect"
	"regexp"
	"slices"
	"strconv"
	"strings"
	"testing"

	"loop.example/s02772/impl"
)

// lineForms are the rows of the document's table, and no other line is a command.
var lineForms = []*regexp.Regexp{
	lineForm("put", "A", "Path", "Value"),
	lineForm("on|off|remove|read|flag|keys", "A", "Path"),
	lineForm("keys|sum", "A"),
	lineForm("hello|whole|flush|drop|dup|turn|reset", "A", "B"),
	lineForm("deliver", "A", "B", "N"),
	lineForm("flip", "A", "B", "N", "X"),
}

func lineForm(words string, parts ...string) *regexp.Regexp {
	forms := map[string]string{"A": "[0-7]", "B": "[0-7]", "N": "[0-9]{1,5}", "X": "[0-9]{1,5}", "Path": "[^ /]+(?:/[^ /]+)*", "Value": "[^ ]+"}
	text := "^(?P<Word>" + words + ")"
	for _, part := range parts {
		text += " (?P<" + part + ">" + forms[part] + ")"
	}
	return regexp.MustCompile(text + "$")
}

// readLine is the test's own reading of a line.
func readLine(line string) (impl.Cmd, bool) {
	for _, form := range lineForms {
		found := form.FindStringSubmatch(line)
		if found == nil {
			continue
		}
		c := impl.Cmd{}
		for i, part := range form.SubexpNames() {
			number, _ := strconv.Atoi(found[i])
			switch part {
			case "Word":
				c.Word = found[i]
			case "A":
				c.A = number
			case "B":
				c.B = number
			case "N":
				c.N = number
			case "X":
				c.X = number
			case "Path":
				c.Path = names(found[i])
			case "Value":
				c.Value = found[i]
			}
		}
		if c.X <= 255 {
			return c, true
		}
	}
	return impl.Cmd{}, false
}

func sameCmd(a impl.Cmd, b impl.Cmd) bool {
	return a.Word == b.Word && a.A == b.A && a.B == b.B && a.N == b.N && a.X == b.X && slices.Equal(a.Path, b.Path) && a.Value == b.Value
}

func lineCmd(t *testing.T, line string) impl.Cmd {
	t.Helper()
	c, ok := readLine(line)
	if !ok {
		t.Fatalf("%q is no line of the test", line)
	}
	return c
}

// lineOfEach has a line of each form with each word, for worlds of two replicas and more.
func lineOfEach() []string {
	return []string{
		"put 0 a v", "on 0 a", "off 0 a", "remove 0 a", "read 0 a", "flag 0 a", "keys 0 a", "keys 0", "sum 0", "hello 0 1", "whole 0 1", "flush 0 1",
		"deliver 0 1 9", "drop 0 1", "dup 0 1", "turn 0 1", "flip 0 1 0 1", "reset 0 1",
	}
}

func meansPipe(word string) bool {
	return strings.Contains(" hello whole flush deliver drop dup turn flip reset ", " "+word+" ")
}

func mustWorld(t *testing.T, n int) impl.World {
	t.Helper()
	w, ok := impl.NewWorld(n)
	if !ok {
		t.Fatalf("no world of %d", n)
	}
	return w
}

func samePipe(a impl.Pipe, b impl.Pipe) bool {
	return a.From == b.From && a.To == b.To && slices.EqualFunc(a.Msgs, b.Msgs, bytes.Equal) && sameDecoder(a.Dec, b.Dec)
}

func sameWorld(a impl.World, b impl.World) bool {
	return slices.EqualFunc(a.Reps, b.Reps, sameReplica) && slices.EqualFunc(a.Pipes, b.Pipes, samePipe)
}

func sameAnswer(a impl.Answer, b impl.Answer) bool {
	return a.Code == b.Code && slices.Equal(a.Codes, b.Codes) && slices.Equal(a.Values, b.Values) && slices.Equal(a.Keys, b.Keys) && a.Sum == b.Sum
}

func onlyCode(code int) impl.Answer {
	return impl.Answer{Code: code}
}

// roomyWorld is a copy with spare room behind every list, which an append into the argument would fill.
func roomyWorld(w impl.World) impl.World {
	own := impl.World{Reps: append(make([]impl.Replica, 0, len(w.Reps)+2), w.Reps...), Pipes: append(make([]impl.Pipe, 0, len(w.Pipes)+2), w.Pipes...)}
	for i := range own.Reps {
		own.Reps[i] = roomyReplica(own.Reps[i])
	}
	for i := range own.Pipes {
		p := &own.Pipes[i]
		p.Msgs = append(make([][]byte, 0, len(p.Msgs)+2), p.Msgs...)
		for k := range p.Msgs {
			p.Msgs[k] = roomyBytes(p.Msgs[k])
		}
		p.Dec.Buf = roomyBytes(p.Dec.Buf)
	}
	return own
}

// worldAsIs shows a world with all spare room, so that two shows differ when anything was written.
func worldAsIs(w impl.World) string {
	text := fmt.Sprint(w.Reps[:cap(w.Reps)], w.Pipes[:cap(w.Pipes)])
	for _, r := range w.Reps {
		text += replicaAsIs(r)
	}
	for _, p := range w.Pipes {
		text += fmt.Sprint(p.Msgs[:cap(p.Msgs)]) + bytesAsIs(p.Dec.Buf)
		for _, msg := range p.Msgs {
			text += bytesAsIs(msg)
		}
	}
	return text
}

type memory struct {
	from uintptr
	to   uintptr
}

// memoriesOf gathers the memory of every list in a value, its spare room too.
func memoriesOf(v reflect.Value) []memory {
	var all []memory
	switch v.Kind() {
	case reflect.Slice:
		if size := uintptr(v.Cap()) * v.Type().Elem().Size(); size > 0 {
			all = append(all, memory{v.Pointer(), v.Pointer() + size})
		}
		for i := range v.Len() {
			all = append(all, memoriesOf(v.Index(i))...)
		}
	case reflect.Struct:
		for i := range v.NumField() {
			all = append(all, memoriesOf(v.Field(i))...)
		}
	}
	return all
}

// checkNoSharing finds two lists, wherever in the values, that have memory in common.
func checkNoSharing(t *testing.T, what string, values ...any) {
	t.Helper()
	var all []memory
	for _, v := range values {
		all = append(all, memoriesOf(reflect.ValueOf(v))...)
	}
	slices.SortFunc(all, func(a memory, b memory) int {
		if a.from < b.from {
			return -1
		}
		return 1
	})
	for i := 1; i < len(all); i++ {
		if all[i].from < all[i-1].to {
			t.Errorf("%s: two lists share memory", what)
			return
		}
	}
}

// worldFault goes by the document's words, or is empty for a valid world.
func worldFault(w impl.World) string {
	n := len(w.Reps)
	if n < 1 || n > 8 {
		return fmt.Sprint(n, " replicas")
	}
	for i, r := range w.Reps {
		if r.Id != i || !impl.ReplicaOk(r) {
			return fmt.Sprint("replica ", i)
		}
	}
	var pairs [][2]int
	for from := range n {
		for to := range n {
			if from != to {
				pairs = append(pairs, [2]int{from, to})
			}
		}
	}
	if len(w.Pipes) != len(pairs) {
		return fmt.Sprint(len(w.Pipes), " pipes")
	}
	for i, p := range w.Pipes {
		if pairs[i] != [2]int{p.From, p.To} || len(slices.Concat(p.Msgs...)) > impl.MaxPending {
			return fmt.Sprint("pipe ", i)
		}
		for _, msg := range p.Msgs {
			if len(msg) == 0 {
				return fmt.Sprint("a message of pipe ", i)
			}
		}
	}
	return ""
}

type badWorld struct {
	why   string
	world impl.World
}

// busyWorld has three replicas with states and deltas, messages whole and cut, and decoders at work, at the start and failed.
func busyWorld(t *testing.T) impl.World {
	t.Helper()
	w := mustWorld(t, 3)
	for _, line := range []string{
		"put 0 a v", "on 1 a/b", "put 2 c w", "whole 0 1", "hello 0 1", "deliver 0 1 5", "hello 0 2", "hello 0 2", "flip 0 2 17 1", "deliver 0 2 99999", "whole 1 2", "dup 1 2",
		"flush 2 0", "put 2 d x", "hello 2 1", "deliver 2 1 99999",
	} {
		w, _ = checkStep(t, w, line)
	}
	return w
}

// turned lets a change of a copy make a bad world of a good one.
func turned(w impl.World, how func(w *impl.World)) impl.World {
	own := roomyWorld(w)
	how(&own)
	return own
}

func badWorlds(t *testing.T) []badWorld {
	t.Helper()
	good := busyWorld(t)
	bad := []badWorld{
		{"nothing at all", impl.World{}},
		{"pipes alone", impl.World{Pipes: good.Pipes}},
		{"one pipe alone", impl.World{Pipes: good.Pipes[:1]}},
		{"nine replicas", nineReplicas()},
		{"a replica missing", impl.World{Reps: good.Reps[:2], Pipes: good.Pipes}},
		{"a replica too many", impl.World{Reps: append(slices.Clone(good.Reps), impl.Replica{Id: 3}), Pipes: good.Pipes}},
		{"one replica with pipes", impl.World{Reps: good.Reps[:1], Pipes: good.Pipes}},
		{"one replica with one pipe", impl.World{Reps: good.Reps[:1], Pipes: []impl.Pipe{{}}}},
		{"two replicas, one pipe", impl.World{Reps: good.Reps[:2], Pipes: good.Pipes[:1]}},
	}
	for why, ids := range map[string][]int{"from 1": {1, 2, 3}, "twice": {0, 1, 1}, "the same": {0, 0, 0}, "turned": {2, 1, 0}, "with a gap": {0, 1, 3}, "below 0": {0, 1, -1}, "8 above": {8, 1, 2}} {
		bad = append(bad, badWorld{"Ids " + why, turned(good, func(w *impl.World) {
			for i, id := range ids {
				w.Reps[i].Id = id
			}
		})})
	}
	bad = append(bad, worldsOfBadReplicas(t, good)...)
	bad = append(bad, worldsOfOtherPipes(good)...)
	return append(bad, worldsOfBadMessages(good)...)
}

// nineReplicas has all that a world of nine would have.
func nineReplicas() impl.World {
	var w impl.World
	for from := range 9 {
		w.Reps = append(w.Reps, impl.Replica{Id: from})
		for to := range 9 {
			if from != to {
				w.Pipes = append(w.Pipes, impl.Pipe{From: from, To: to})
			}
		}
	}
	return w
}

func worldsOfBadReplicas(t *testing.T, good impl.World) []badWorld {
	t.Helper()
	var bad []badWorld
	for i, b := range badReplicas(t) {
		place := i % len(good.Reps)
		if b.replica.Id >= 0 && b.replica.Id < impl.MaxReps {
			b.replica.Id = place
		}
		bad = append(bad, badWorld{b.why, turned(good, func(w *impl.World) { w.Reps[place] = b.replica })})
	}
	return bad
}

func worldsOfOtherPipes(good impl.World) []badWorld {
	last := len(good.Pipes) - 1
	ends := func(i int, from int, to int) impl.World {
		return turned(good, func(w *impl.World) { w.Pipes[i].From, w.Pipes[i].To = from, to })
	}
	bad := []badWorld{
		{"no pipes", turned(good, func(w *impl.World) { w.Pipes = nil })},
		{"the first pipe missing", turned(good, func(w *impl.World) { w.Pipes = w.Pipes[1:] })},
		{"the last pipe missing", turned(good, func(w *impl.World) { w.Pipes = w.Pipes[:last] })},
		{"a pipe in the middle missing", turned(good, func(w *impl.World) { w.Pipes = slices.Delete(w.Pipes, 2, 3) })},
		{"the last pipe twice", turned(good, func(w *impl.World) { w.Pipes = append(w.Pipes, impl.Pipe{From: 2, To: 1}) })},
		{"a pipe to nobody more", turned(good, func(w *impl.World) { w.Pipes = append(w.Pipes, impl.Pipe{From: 2, To: 3}) })},
		{"a pipe to itself more", turned(good, func(w *impl.World) { w.Pipes = slices.Insert(w.Pipes, 0, impl.Pipe{}) })},
		{"two pipes exchanged", turned(good, func(w *impl.World) { w.Pipes[0], w.Pipes[1] = w.Pipes[1], w.Pipes[0] })},
		{"all pipes turned", turned(good, func(w *impl.World) { slices.Reverse(w.Pipes) })},
		{"pipes by To", turned(good, func(w *impl.World) {
			slices.SortFunc(w.Pipes, func(a impl.Pipe, b impl.Pipe) int { return 10*(a.To-b.To) + a.From - b.From })
		})},
		{"the ends of a pipe exchanged", ends(0, 1, 0)},
		{"a pipe to itself", ends(0, 0, 0)},
		{"a pipe twice", ends(1, 0, 1)},
	}
	for _, odd := range []int{-1, 3, 8, 1 << 32, math.MinInt, math.MaxInt} {
		bad = append(bad, badWorld{fmt.Sprint("From ", odd), ends(last, odd, 1)}, badWorld{fmt.Sprint("To ", odd), ends(last, 2, odd)})
	}
	return bad
}

func worldsOfBadMessages(good impl.World) []badWorld {
	var bad []badWorld
	full := make([]byte, impl.MaxPending)
	ones := [][]byte{}
	for range impl.MaxPending + 1 {
		ones = append(ones, []byte{199})
	}
	for why, msgs := range map[string][][]byte{
		"one message too long":             {append(slices.Clone(full), 0)},
		"a byte too many in two":           {full[:1], full},
		"a byte too many in three":         {full[:50000], full[:49999], full[:2]},
		"far too many bytes":               {full, full, full},
		"too many messages of one byte":    ones,
		"a message without bytes":          {{}},
		"a message that is nil":            {nil},
		"no bytes in front":                {{}, {1}},
		"no bytes in the middle":           {{1}, {}, {2}},
		"no bytes at the end":              {{1}, {2}, nil},
		"no bytes beside MaxPending bytes": {full, {}},
	} {
		for _, place := range []int{0, 3, len(good.Pipes) - 1} {
			bad = append(bad, badWorld{fmt.Sprint(why, ", pipe ", place), turned(good, func(w *impl.World) { w.Pipes[place].Msgs = msgs })})
		}
	}
	return bad
}
