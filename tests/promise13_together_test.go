package tests

import (
	"fmt"
	"slices"
	"strings"
	"testing"

	"loop.example/s02772/impl"
)

func orderedPairs(n int) [][2]int {
	var pairs [][2]int
	for from := range n {
		for to := range n {
			if from != to {
				pairs = append(pairs, [2]int{from, to})
			}
		}
	}
	return pairs
}

func shuffled(d *dice, pairs [][2]int) [][2]int {
	own := slices.Clone(pairs)
	for i := range own {
		k := d.below(i + 1)
		own[i], own[k] = own[k], own[i]
	}
	return own
}

// togetherLines are what promise 13 names, and a sum of each at the end.
func togetherLines(n int, pairs [][2]int) []string {
	var lines []string
	for _, p := range orderedPairs(n) {
		lines = append(lines, fmt.Sprintf("reset %d %d", p[0], p[1]))
	}
	for _, p := range pairs {
		lines = append(lines, fmt.Sprintf("hello %d %d", p[0], p[1]), fmt.Sprintf("deliver %d %d 99999", p[0], p[1]), fmt.Sprintf("deliver %d %d 99999", p[1], p[0]))
	}
	for i := range n {
		lines = append(lines, fmt.Sprint("sum ", i))
	}
	return lines
}

// joinOfStates is that of all, and whether those of all choices are there and fit; by the sets.
func joinOfStates(w impl.World) (impl.State, bool) {
	joins := []model{newModel()}
	for _, r := range w.Reps {
		for _, m := range slices.Clone(joins) {
			joined := joinOfModels(m, modelOf(r.State))
			if !isFit(joined.state()) {
				return impl.State{}, false
			}
			joins = append(joins, joined)
		}
	}
	return joins[len(joins)-1].state(), true
}

func checkTogether(t *testing.T, why string, w impl.World, want impl.State, answers []impl.Answer) {
	t.Helper()
	for i, r := range w.Reps {
		if !sameState(r.State, want) {
			t.Errorf("%s: replica %d is not at the join of all", why, i)
		}
	}
	sums := answers[len(answers)-len(w.Reps):]
	for i, answer := range sums {
		if answer.Sum != sums[0].Sum || answer.Sum != impl.Digest(spelled(want)) {
			t.Errorf("%s: the sum of %d is %d, not %d", why, i, answer.Sum, sums[0].Sum)
		}
	}
}

// stepAll does lines with Step alone, and wants no Code but 0.
func stepAll(t *testing.T, w impl.World, lines []string) (impl.World, []impl.Answer) {
	t.Helper()
	var answers []impl.Answer
	for _, line := range lines {
		next, answer := impl.Step(w, lineCmd(t, line))
		if answer.Code != 0 || slices.ContainsFunc(answer.Codes, func(code int) bool { return code != 0 }) {
			t.Errorf("%q: %v", line, answer)
		}
		w = next
		answers = append(answers, answer)
	}
	return w, answers
}

func mustRun(t *testing.T, text string) (impl.World, []impl.Answer) {
	t.Helper()
	w, answers, code, line := impl.RunScript(text)
	if code != 0 || line != 0 {
		t.Fatalf("the script has code %d in line %d", code, line)
	}
	return w, answers
}

// Scripts of losses, doubles, turns, changed bytes, cuts and resets; the States behind them come together.
func TestWorldsComeTogether(t *testing.T) {
	d := &dice{state: 131}
	together := map[int]int{}
	for i := range 64 {
		n := 1 + i%8
		lines := []string{fmt.Sprint("world ", n)}
		for range 60 + d.below(200) {
			lines = append(lines, diceLine(d, n))
		}
		w, _ := mustRun(t, strings.Join(lines, "\n"))
		want, fits := joinOfStates(w)
		if !fits {
			continue
		}
		together[n]++
		more := togetherLines(n, shuffled(d, orderedPairs(n)))
		end, answers := stepAll(t, w, more)
		checkTogether(t, fmt.Sprint("script ", i), end, want, answers)
		inOne, answers := mustRun(t, strings.Join(slices.Concat(lines, more), "\n"))
		checkTogether(t, fmt.Sprint("script in one ", i), inOne, want, answers)
		if !sameWorld(inOne, end) {
			t.Errorf("script %d: RunScript ends elsewhere", i)
		}
	}
	for n := 1; n <= 8; n++ {
		if together[n] < 3 {
			t.Errorf("only %d scripts for worlds of %d", together[n], n)
		}
	}
}

// States that no changes lead to, pipes full of noise, and decoders that have failed.
func TestAnyWorldsComeTogether(t *testing.T) {
	d := &dice{state: 132}
	together := map[int]int{}
	for i := range 64 {
		n := 1 + i%8
		w := diceWorld(t, d, n)
		for k := range w.Reps {
			// where one is full, the joins are not fit
			if i >= 16 {
				w.Reps[k].State = diceState(d)
			}
		}
		want, fits := joinOfStates(w)
		if !fits {
			continue
		}
		together[n]++
		end, answers := stepAll(t, w, togetherLines(n, shuffled(d, orderedPairs(n))))
		checkTogether(t, fmt.Sprint("world ", i), end, want, answers)
		for k, r := range end.Reps {
			if !sameState(r.Delta, w.Reps[k].Delta) {
				t.Errorf("world %d: the Delta of %d is another", i, k)
			}
		}
	}
	for n := 1; n <= 8; n++ {
		if together[n] < 3 {
			t.Errorf("only %d worlds of %d", together[n], n)
		}
	}
}

func TestWhatReplicasWroteComesTogether(t *testing.T) {
	for n := 1; n <= 8; n++ {
		lines := []string{fmt.Sprint("world ", n)}
		var values []string
		for i := range n {
			lines = append(lines, fmt.Sprintf("put %d k old", i), fmt.Sprintf("put %d k v%d", i, i), fmt.Sprintf("on %d own/%d", i, i), fmt.Sprintf("on %d f", i), fmt.Sprintf("off %d f", i))
			values = append(values, fmt.Sprint("v", i))
		}
		lines = append(lines, togetherLines(n, orderedPairs(n))...)
		for i := range n {
			lines = append(lines, fmt.Sprintf("read %d k", i), fmt.Sprintf("keys %d own", i), fmt.Sprintf("flag %d f", i))
		}
		_, answers := mustRun(t, strings.Join(lines, "\n"))
		for i, at := 0, len(answers)-3*n; i < n; i, at = i+1, at+3 {
			if !slices.Equal(answers[at].Values, values) || len(answers[at+1].Keys) != n || answers[at+2].Code != 0 {
				t.Errorf("world of %d: replica %d has %v %v %v", n, i, answers[at], answers[at+1], answers[at+2])
			}
		}
	}
}

// Without the resets a pipe that has failed stays so: what the resets are for.
func TestAFailedPipeNeedsItsReset(t *testing.T) {
	broken := "world 2\nput 0 a v\nput 1 b w\nhello 0 1\nflip 0 1 0 1\ndeliver 0 1 99999\n"
	hello := "hello 0 1\ndeliver 0 1 99999\ndeliver 1 0 99999\n"
	w, _ := mustRun(t, broken+hello)
	if len(w.Reps[0].State.Leaves) != 1 {
		t.Errorf("a failed pipe gives frames: %v", w.Reps[0])
	}
	w, _ = mustRun(t, broken+"reset 0 1\n"+hello)
	if len(w.Reps[0].State.Leaves) != 2 {
		t.Errorf("a reset does not mend: %v", w.Reps[0])
	}
}
