package tests

import (
	"slices"

	"loop.example/s02772/impl"
)

// dice gives the same numbers in every run.
type dice struct {
	state uint64
}

func (d *dice) below(n int) int {
	d.state = d.state*6364136223846793005 + 1442695040888963407
	return int((d.state >> 33) % uint64(n))
}

func varints(numbers ...uint64) []byte {
	var b []byte
	for _, v := range numbers {
		b = append(b, impl.PutUvarint(v)...)
	}
	return b
}

// runsOf takes three numbers a run: Rep, From, To.
func runsOf(v ...int) impl.Context {
	c := impl.Context{}
	for i := 0; i+2 < len(v); i += 3 {
		c.Runs = append(c.Runs, impl.Run{Rep: v[i], From: v[i+1], To: v[i+2]})
	}
	return c
}

// lonely is count runs of one dot each, with gaps of one between them, from seq on.
func lonely(rep int, seq int, count int) impl.Context {
	c := impl.Context{}
	for i := range count {
		c.Runs = append(c.Runs, impl.Run{Rep: rep, From: seq + 2*i, To: seq + 2*i})
	}
	return c
}

func sideBySide(parts ...impl.Context) impl.Context {
	c := impl.Context{}
	for _, p := range parts {
		c.Runs = append(c.Runs, p.Runs...)
	}
	return c
}

func sameContext(a impl.Context, b impl.Context) bool {
	return slices.Equal(a.Runs, b.Runs)
}

type dotSet map[impl.Dot]bool

// contextOfSet is the test's own way from a set to its one form, dot by dot.
func contextOfSet(set dotSet) impl.Context {
	dots := []impl.Dot{}
	for d := range set {
		dots = append(dots, d)
	}
	slices.SortFunc(dots, func(a impl.Dot, b impl.Dot) int {
		if a.Rep != b.Rep {
			return a.Rep - b.Rep
		}
		return a.Seq - b.Seq
	})
	c := impl.Context{}
	for _, d := range dots {
		last := len(c.Runs) - 1
		if last >= 0 && c.Runs[last].Rep == d.Rep && c.Runs[last].To+1 == d.Seq {
			c.Runs[last].To = d.Seq
			continue
		}
		c.Runs = append(c.Runs, impl.Run{Rep: d.Rep, From: d.Seq, To: d.Seq})
	}
	return c
}

func setOfContext(c impl.Context) dotSet {
	set := dotSet{}
	for _, r := range c.Runs {
		for seq := r.From; seq <= r.To; seq++ {
			set[impl.Dot{Rep: r.Rep, Seq: seq}] = true
		}
	}
	return set
}

// universe is a few dots at both ends of what replicas and numbers may be.
func universe() []impl.Dot {
	dots := []impl.Dot{}
	for _, rep := range []int{0, 1, impl.MaxReps - 1} {
		for seq := 1; seq <= 7; seq++ {
			dots = append(dots, impl.Dot{Rep: rep, Seq: seq})
		}
		for seq := impl.MaxSeq - 3; seq <= impl.MaxSeq; seq++ {
			dots = append(dots, impl.Dot{Rep: rep, Seq: seq})
		}
	}
	return dots
}

func diceSet(d *dice) dotSet {
	set := dotSet{}
	oneIn := 1 + d.below(4)
	for _, dot := range universe() {
		if d.below(4) >= oneIn {
			set[dot] = true
		}
	}
	return set
}

type badContext struct {
	why string
	ctx impl.Context
}

func badContexts() []badContext {
	least := -int(^uint(0)>>1) - 1
	most := int(^uint(0) >> 1)
	return []badContext{
		{"Rep above", runsOf(impl.MaxReps, 1, 1)},
		{"Rep below", runsOf(-1, 1, 1)},
		{"Rep greatest", runsOf(most, 1, 1)},
		{"Rep least", runsOf(least, 1, 1)},
		{"From 0", runsOf(0, 0, 1)},
		{"From and To 0", runsOf(0, 0, 0)},
		{"From below 0", runsOf(0, -5, 1)},
		{"From least", runsOf(0, least, 1)},
		{"To below From", runsOf(0, 2, 1)},
		{"To above", runsOf(0, 1, impl.MaxSeq+1)},
		{"To greatest", runsOf(0, 1, most)},
		{"To greatest, then another", runsOf(0, 1, most, 0, 5, 5)},
		{"both above", runsOf(0, impl.MaxSeq+1, impl.MaxSeq+1)},
		{"runs touch", runsOf(0, 1, 3, 0, 4, 5)},
		{"runs touch at the end", runsOf(7, 1, impl.MaxSeq-1, 7, impl.MaxSeq, impl.MaxSeq)},
		{"runs overlap", runsOf(0, 1, 3, 0, 3, 5)},
		{"run in a run", runsOf(0, 1, 9, 0, 3, 5)},
		{"run twice", runsOf(0, 1, 3, 0, 1, 3)},
		{"From descends", runsOf(0, 5, 6, 0, 1, 2)},
		{"Rep descends", runsOf(1, 1, 1, 0, 1, 1)},
		{"Rep comes again", runsOf(0, 1, 1, 1, 1, 1, 0, 3, 3)},
		{"the last of three", runsOf(0, 1, 1, 0, 3, 3, 0, 4, 4)},
		{"too many runs", lonely(1, 1, impl.MaxRuns+1)},
		{"too many runs together", sideBySide(lonely(1, 1, impl.MaxRuns/2), lonely(2, 1, impl.MaxRuns/2+1))},
	}
}
