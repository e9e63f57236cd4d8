package tests

import (
	"fmt"
	"runtime"
	"slices"
	"strings"
	"sync"
	"testing"

	"loop.example/s02772/impl"
)

func checkLine(t *testing.T, line string) bool {
	t.Helper()
	want, wantOk := readLine(line)
	c, ok := impl.ParseCmd(line)
	if ok != wantOk || !sameCmd(c, want) {
		t.Errorf("%q: %v %v, not %v %v", line, c, ok, want, wantOk)
	}
	return ok
}

func TestLinesThatAreCommands(t *testing.T) {
	long := strings.Repeat("n", 300)
	for line, want := range map[string]impl.Cmd{
		"put 0 a v":                    {Word: "put", Path: []string{"a"}, Value: "v"},
		"put 7 a/b/c v/w//":            {Word: "put", A: 7, Path: []string{"a", "b", "c"}, Value: "v/w//"},
		"put 1 put put":                {Word: "put", A: 1, Path: []string{"put"}, Value: "put"},
		"put 1 0 1":                    {Word: "put", A: 1, Path: []string{"0"}, Value: "1"},
		"put 1 a /":                    {Word: "put", A: 1, Path: []string{"a"}, Value: "/"},
		"put 1 \x80/\xff\xfe \xc3\x28": {Word: "put", A: 1, Path: []string{"\x80", "\xff\xfe"}, Value: "\xc3\x28"},
		"put 1 ä/ö ü":                  {Word: "put", A: 1, Path: []string{"ä", "ö"}, Value: "ü"},
		"put 1 a v\r":                  {Word: "put", A: 1, Path: []string{"a"}, Value: "v\r"},
		"put 1 \r \r":                  {Word: "put", A: 1, Path: []string{"\r"}, Value: "\r"},
		"put 1 a\tb \x00":              {Word: "put", A: 1, Path: []string{"a\tb"}, Value: "\x00"},
		"put 2 " + long + " " + long:   {Word: "put", A: 2, Path: []string{long}, Value: long},
		"put 2 1/2/3/4/5/6/7/8/9/0 v":  {Word: "put", A: 2, Path: names("1/2/3/4/5/6/7/8/9/0"), Value: "v"},
		"on 3 a/b":                     {Word: "on", A: 3, Path: []string{"a", "b"}},
		"off 4 a\r":                    {Word: "off", A: 4, Path: []string{"a\r"}},
		"remove 5 a":                   {Word: "remove", A: 5, Path: []string{"a"}},
		"read 6 a":                     {Word: "read", A: 6, Path: []string{"a"}},
		"flag 7 a":                     {Word: "flag", A: 7, Path: []string{"a"}},
		"keys 0":                       {Word: "keys"},
		"keys 7":                       {Word: "keys", A: 7},
		"keys 7 a/b":                   {Word: "keys", A: 7, Path: []string{"a", "b"}},
		"sum 6":                        {Word: "sum", A: 6},
		"hello 0 7":                    {Word: "hello", B: 7},
		"hello 3 3":                    {Word: "hello", A: 3, B: 3},
		"whole 1 2":                    {Word: "whole", A: 1, B: 2},
		"flush 2 1":                    {Word: "flush", A: 2, B: 1},
		"deliver 0 1 0":                {Word: "deliver", B: 1},
		"deliver 0 1 00000":            {Word: "deliver", B: 1},
		"deliver 0 1 00012":            {Word: "deliver", B: 1, N: 12},
		"deliver 0 1 99999":            {Word: "deliver", B: 1, N: 99999},
		"drop 1 0":                     {Word: "drop", A: 1},
		"dup 1 0":                      {Word: "dup", A: 1},
		"turn 1 0":                     {Word: "turn", A: 1},
		"flip 1 0 0 0":                 {Word: "flip", A: 1},
		"flip 1 0 99999 255":           {Word: "flip", A: 1, N: 99999, X: 255},
		"flip 1 0 00001 00255":         {Word: "flip", A: 1, N: 1, X: 255},
		"flip 6 7 010 010":             {Word: "flip", A: 6, B: 7, N: 10, X: 10},
		"reset 7 0":                    {Word: "reset", A: 7},
		"remove 0 world/2":             {Word: "remove", Path: []string{"world", "2"}},
		"put 0 " + strings.Repeat("a/", 99) + "a v": {Word: "put", Path: slices.Repeat([]string{"a"}, 100), Value: "v"},
	} {
		if c, ok := impl.ParseCmd(line); !ok || !sameCmd(c, want) {
			t.Errorf("%.60q: %v %v", line, c, ok)
		}
		checkLine(t, line)
	}
}

func TestLinesThatAreNone(t *testing.T) {
	for _, line := range []string{
		"", " ", "\r", "put", "put ", "put 0", "put 0 ", "put 0 a", "put 0 a ", "put 0 a  v", "put 0  a v", "put  0 a v", " put 0 a v", "put 0 a v ", "put 0 a v w", "put 0 a v w x", "put\t0 a v", "put 0\ta v",
		"put 8 a v", "put 9 a v", "put -1 a v", "put +1 a v", "put 00 a v", "put 01 a v", "put x a v", "put a v 0", "put 0 /a v", "put 0 a/ v", "put 0 a//b v", "put 0 / v", "put 0 // v", "put ٣ a v",
		"Put 0 a v", "PUT 0 a v", "puts 0 a v", "pu 0 a v", "on 0", "on 0 ", "on 0 a b", "on 0 a ", "on  0 a", "on 8 a", "on 0 a//b", "off 0", "remove 0", "remove 0 a b", "read 0", "read 0 /", "flag 0", "flag 0 a v",
		"keys", "keys ", "keys 0 ", "keys 8", "keys 0 a b", "keys 0 /", "keys 0 a/", "keys 0\r", "keys 00", "sum", "sum ", "sum 0 ", "sum 0 a", "sum 8", "sum 0\r", "sum 0 1",
		"hello", "hello 0", "hello 0 ", "hello 0 1 ", "hello 0 1 2", "hello 0 8", "hello 8 0", "hello 01", "hello 0 01", "hello 0  1", "hello 0 1\r", "hello 0 -1", "hello a b", "whole 0", "flush 1", "drop 1", "dup 1", "turn 1", "reset 1", "reset 0 1 0",
		"deliver 0 1", "deliver 0 1 ", "deliver 0 1 100000", "deliver 0 1 000000", "deliver 0 1 -1", "deliver 0 1 +1", "deliver 0 1 1.0", "deliver 0 1 1e3", "deliver 0 1 0x1", "deliver 0 1 1_0", "deliver 0 1 1 1", "deliver 0 1 12a", "deliver 0 1 12\r", "deliver 0 1 ١",
		"flip 0 1 5", "flip 0 1 5 ", "flip 0 1 5 256", "flip 0 1 5 257", "flip 0 1 5 00256", "flip 0 1 5 65536", "flip 0 1 5 99999", "flip 0 1 5 000255", "flip 0 1 5 -1", "flip 0 1 -5 1", "flip 0 1 100000 1", "flip 0 1 5 5 5", "flip 0 1 a 5", "flip 0 1 5 a", "flip 8 1 5 5",
		"world 2", "world", "help", "0", "deliver", "flip", "\xffsum 0", "sum\xff 0", "sum 0\xff", "sum \xff",
	} {
		if c, ok := impl.ParseCmd(line); ok || !sameCmd(c, impl.Cmd{}) {
			t.Errorf("%q: %v %v", line, c, ok)
		}
		if checkLine(t, line) {
			t.Errorf("%q is a line of the test", line)
		}
	}
}

// editedLine puts a byte in, changes one or takes one out.
func editedLine(line string, at int, how int, b string) string {
	switch {
	case how == 0:
		return line[:at] + b + line[at:]
	case at == len(line):
		return line
	case how == 1:
		return line[:at] + b + line[at+1:]
	}
	return line[:at] + line[at+1:]
}

func editBytes() []string {
	return []string{" ", "/", "0", "1", "2", "5", "7", "8", "9", "a", "s", "-", "+", ".", "\r", "\t", "\x00", "\x80", "\xff", "P"}
}

func linesToEdit() []string {
	return append(lineOfEach(), "put 7 a/b v/w", "off 1 a/b/c", "keys 5 a/b", "deliver 7 6 12345", "flip 1 0 99999 255", "flip 1 0 0 25", "world 2")
}

// All neighbours of lines, and some of their neighbours, are read as the test reads them.
func TestNeighboursOfLines(t *testing.T) {
	d := &dice{state: 141}
	commands := 0
	for _, line := range linesToEdit() {
		for at := range len(line) + 1 {
			for how := range 3 {
				for _, b := range editBytes() {
					near := editedLine(line, at, how, b)
					if checkLine(t, near) {
						commands++
					}
					checkLine(t, editedLine(near, d.below(len(near)+1), d.below(3), editBytes()[d.below(20)]))
				}
			}
		}
	}
	if commands == 0 {
		t.Errorf("no neighbour is a command")
	}
	for range 2000 {
		checkLine(t, diceLine(d, 8))
	}
}

func TestParsedCommandsAreNewMemory(t *testing.T) {
	one, _ := impl.ParseCmd("put 0 a/b/c v")
	two, _ := impl.ParseCmd("put 0 a/b/c v")
	checkNoSharing(t, "ParseCmd", one, two)
}

// scriptByLines is RunScript by the test's own reading of lines, and Step.
func scriptByLines(text string) (impl.World, []impl.Answer, int, int) {
	if len(text) > impl.MaxScript {
		return impl.World{}, nil, 1, 0
	}
	var w impl.World
	var answers []impl.Answer
	for i, line := range strings.Split(text, "\n") {
		switch {
		case line == "":
		case len(w.Reps) == 0:
			if len(line) != 7 || line[:6] != "world " || line[6] < '1' || line[6] > '8' {
				return impl.World{}, nil, 2, i + 1
			}
			w, _ = impl.NewWorld(int(line[6] - '0'))
		default:
			c, ok := readLine(line)
			if !ok {
				return impl.World{}, nil, 2, i + 1
			}
			next, answer := impl.Step(w, c)
			w = next
			answers = append(answers, answer)
		}
	}
	if len(w.Reps) == 0 {
		return impl.World{}, nil, 3, 0
	}
	return w, answers, 0, 0
}

func checkScript(t *testing.T, text string) (int, int) {
	t.Helper()
	wantWorld, wantAnswers, wantCode, wantLine := scriptByLines(text)
	w, answers, code, line := impl.RunScript(text)
	if code != wantCode || line != wantLine {
		t.Errorf("%.80q: code %d in line %d, not %d in %d", text, code, line, wantCode, wantLine)
	}
	if !sameWorld(w, wantWorld) || !slices.EqualFunc(answers, wantAnswers, sameAnswer) {
		t.Errorf("%.80q: %d answers, not %d; or another world", text, len(answers), len(wantAnswers))
	}
	if code == 0 && worldFault(w) != "" {
		t.Errorf("%.80q: %s", text, worldFault(w))
	}
	return code, line
}

func TestCodesOfScripts(t *testing.T) {
	for _, c := range []struct {
		text string
		code int
		line int
	}{
		{"", 3, 0}, {"\n", 3, 0}, {"\n\n\n", 3, 0}, {strings.Repeat("\n", impl.MaxScript), 3, 0}, {strings.Repeat("\n", impl.MaxScript+1), 1, 0},
		{" ", 2, 1}, {"\r", 2, 1}, {"\n\r\n", 2, 2}, {"\x00", 2, 1}, {"sum 0", 2, 1}, {"\n\nsum 0\nworld 1", 2, 3},
		{"world 1", 0, 0}, {"world 8", 0, 0}, {"world 1\n", 0, 0}, {"\n\nworld 1\n\n", 0, 0}, {"world 0", 2, 1}, {"world 9", 2, 1}, {"world", 2, 1}, {"world ", 2, 1}, {"world  1", 2, 1}, {"world 1 ", 2, 1}, {" world 1", 2, 1},
		{"world 01", 2, 1}, {"world 10", 2, 1}, {"world -1", 2, 1}, {"world +1", 2, 1}, {"world 1\r", 2, 1}, {"world 1\r\n", 2, 1}, {"World 1", 2, 1}, {"world1", 2, 1}, {"world\t1", 2, 1}, {"world x", 2, 1}, {"world 1 1", 2, 1}, {"\nworld 0\n", 2, 2}, {"worlds 1", 2, 1},
		{"world 1\nworld 1", 2, 2}, {"world 1\nsum 0\n\nworld 2", 2, 4}, {"world 2\nhello 0 1\nhelo 0 1\nfoo", 2, 3}, {"world 1\nsum 0\n\n\nsum 8\n", 2, 5}, {"world 1\n ", 2, 2}, {"world 1\nsum 0 ", 2, 2}, {"world 1\n\r", 2, 2},
		{"world 1\nsum 0\r\n", 2, 2}, {"world 1\nput 0 a v\r\n", 0, 0}, {"world 1\nsum 7\nhello 0 0\nhello 3 4", 0, 0}, {"world 0\nfoo", 2, 1}, {"foo\nworld 1", 2, 1},
		{"foo" + strings.Repeat("\n", impl.MaxScript-3), 2, 1}, {"foo" + strings.Repeat("\n", impl.MaxScript-2), 1, 0}, {"world 1" + strings.Repeat("\n", impl.MaxScript-8) + "x", 2, impl.MaxScript - 7},
		{"world 1\nput 0 a " + strings.Repeat("v", impl.MaxScript-16), 0, 0}, {"world 1\nput 0 a " + strings.Repeat("v", impl.MaxScript-15), 1, 0}, {strings.Repeat("x", 9*impl.MaxScript), 1, 0},
	} {
		if code, line := checkScript(t, c.text); code != c.code || line != c.line {
			t.Errorf("%.60q: code %d in line %d, not %d in %d", c.text, code, line, c.code, c.line)
		}
	}
}

func TestAnswersOfScripts(t *testing.T) {
	w, answers := mustRun(t, "\n\nworld 2\n\nput 0 a v\nread 0 a\n\nhello 0 0\nsum 5\nput 0 a/b/c/d/e/f/g/h/i x\nflush 0 1\nflush 0 1\ndeliver 0 1 99999\n\nflag 1 a\nread 1 a\n\n")
	want := []impl.Answer{{}, {Values: []string{"v"}}, {Code: 9}, {Code: 9}, {Code: 2}, {}, {Code: 1}, {Codes: []int{0}}, {}, {Values: []string{"v"}}}
	if !slices.EqualFunc(answers, want, sameAnswer) {
		t.Errorf("%v", answers)
	}
	if !sameState(w.Reps[0].State, w.Reps[1].State) || len(w.Pipes) != 2 {
		t.Errorf("%v", w)
	}
	for n := 1; n <= 8; n++ {
		w, answers := mustRun(t, fmt.Sprint("world ", n))
		if !sameWorld(w, mustWorld(t, n)) || len(answers) != 0 {
			t.Errorf("a world of %d alone: %v %v", n, w, answers)
		}
	}
}

// diceScript has lines of the dice, lines without a byte, and at times one line that is spoilt.
func diceScript(d *dice, spoil bool) string {
	n := 1 + d.below(8)
	lines := []string{fmt.Sprint("world ", n)}
	for range d.below(80) {
		line := diceLine(d, n)
		if d.below(6) == 0 {
			line = ""
		}
		lines = append(lines, line)
	}
	if spoil {
		at := d.below(len(lines))
		lines[at] = editedLine(lines[at], d.below(len(lines[at])+1), d.below(3), editBytes()[d.below(20)])
	}
	return strings.Repeat("\n", d.below(3)) + strings.Join(lines, "\n") + strings.Repeat("\n", d.below(3))
}

func TestScriptsGoLineByLine(t *testing.T) {
	d := &dice{state: 142}
	codes := map[int]int{}
	for i := range 240 {
		code, _ := checkScript(t, diceScript(d, i%2 == 0))
		codes[code]++
	}
	if codes[0] < 100 || codes[2] < 20 {
		t.Errorf("the codes are %v", codes)
	}
}

// A script of MaxScript bytes is all lines that it has room for.
func TestLongScripts(t *testing.T) {
	for _, c := range []struct {
		first string
		again string
	}{{"world 8\n", "sum 7\n"}, {"world 8\n", "reset 0 1\n"}, {"world 2\n", "hello 0 1\n"}, {"world 2\nhello 0 1\n", "dup 0 1\n"}, {"world 3\nhello 2 1\n", "turn 2 1\n"}, {"world 2\nput 0 a v\n", "deliver 0 1 0\n"}} {
		times := (impl.MaxScript - len(c.first)) / len(c.again)
		text := c.first + strings.Repeat(c.again, times)
		text += strings.Repeat("\n", impl.MaxScript-len(text))
		_, answers := mustRun(t, text)
		if len(answers) != times+strings.Count(c.first, "\n")-1 {
			t.Errorf("%q: %d answers", c.again, len(answers))
		}
		if _, _, code, line := impl.RunScript(text + "\n"); code != 1 || line != 0 {
			t.Errorf("%q: one byte more has code %d in line %d", c.again, code, line)
		}
	}
}

// Equal texts give equal worlds, however goroutines run.
func TestEqualTexts(t *testing.T) {
	d := &dice{state: 143}
	defer runtime.GOMAXPROCS(runtime.GOMAXPROCS(0))
	for range 20 {
		text := diceScript(d, false)
		want, wantAnswers := mustRun(t, text)
		var all sync.WaitGroup
		for _, processors := range []int{1, 2, 8} {
			runtime.GOMAXPROCS(processors)
			for range 4 {
				all.Go(func() {
					w, answers, code, line := impl.RunScript(text)
					if !sameWorld(w, want) || !slices.EqualFunc(answers, wantAnswers, sameAnswer) || code != 0 || line != 0 {
						t.Errorf("%.80q: another end", text)
					}
				})
			}
			all.Wait()
		}
	}
}

func TestScriptsGiveNewMemory(t *testing.T) {
	d := &dice{state: 144}
	for range 60 {
		text := diceScript(d, false)
		one, answers, _, _ := impl.RunScript(text)
		two, others, _, _ := impl.RunScript(text)
		checkNoSharing(t, "RunScript", one, answers, two, others)
	}
}
