package impl

import (
	"cmp"
	"errors"
	"maps"
	"slices"
)

const MaxReps = 8
const MaxSeq = 1000000000
const MaxRuns = 1000

var errLimit = errors.New("a number is above its limit")
var errOrder = errors.New("out of order")
var errNoRuns = errors.New("a replica has no runs")

// Dot is described in the document.
type Dot struct {
	Rep int
	Seq int
}

// Run is described in the document.
type Run struct {
	Rep  int
	From int
	To   int
}

// Context is described in the document.
type Context struct {
	Runs []Run
}

type span struct {
	from int
	to   int
}

// runMap has the spans of each replica that has some, ascending and with a gap between any two; so a set of dots has one form here too.
type runMap map[int][]span

// openContext is the one way from a context that came in to its map, so no map is made of one that is not valid.
func openContext(c Context) (runMap, bool) {
	if !ContextOk(c) {
		return nil, false
	}
	m := runMap{}
	for _, r := range c.Runs {
		m[r.Rep] = append(m[r.Rep], span{r.From, r.To})
	}
	return m, true
}

// context goes by sorted replicas, so that the map's order can't show.
func (m runMap) context() Context {
	var c Context
	for _, rep := range slices.Sorted(maps.Keys(m)) {
		for _, s := range m[rep] {
			c.Runs = append(c.Runs, Run{rep, s.from, s.to})
		}
	}
	return c
}

func (m runMap) count() int {
	n := 0
	for _, spans := range m {
		n += len(spans)
	}
	return n
}

// holds needs to look at one span only: with gaps between them, no two can hold it together.
func (m runMap) holds(rep int, want span) bool {
	spans := m[rep]
	i, _ := slices.BinarySearchFunc(spans, want.to, func(s span, seq int) int {
		return cmp.Compare(s.to, seq)
	})
	return i < len(spans) && spans[i].from <= want.from
}

func (m runMap) has(d Dot) bool {
	return m.holds(d.Rep, span{d.Seq, d.Seq})
}

func (m runMap) holdsAll(other runMap) bool {
	all := true
	for rep, spans := range other {
		for _, s := range spans {
			all = all && m.holds(rep, s)
		}
	}
	return all
}

func (m runMap) union(other runMap) runMap {
	both := runMap{}
	maps.Copy(both, m)
	for rep, spans := range other {
		both[rep] = mergeSpans(m[rep], spans)
	}
	return both
}

func (m runMap) greatest(rep int) int {
	spans := m[rep]
	if len(spans) == 0 {
		return 0
	}
	return spans[len(spans)-1].to
}

func (m runMap) next(rep int) (Dot, bool) {
	seq := m.greatest(rep) + 1
	if !repOk(rep) || seq > MaxSeq {
		return Dot{}, false
	}
	return Dot{rep, seq}, true
}

func compareDots(a Dot, b Dot) int {
	return cmp.Or(cmp.Compare(a.Rep, b.Rep), cmp.Compare(a.Seq, b.Seq))
}

// runsOfDots takes the dots in ascending order, as appendSpan lets a span go up in none but the last.
func runsOfDots(dots []Dot) runMap {
	m := runMap{}
	for _, d := range slices.SortedFunc(slices.Values(dots), compareDots) {
		m[d.Rep] = appendSpan(m[d.Rep], span{d.Seq, d.Seq})
	}
	return m
}

func mergeSpans(a []span, b []span) []span {
	merged := make([]span, 0, len(a)+len(b))
	for len(a) > 0 && len(b) > 0 {
		if a[0].from <= b[0].from {
			merged, a = appendSpan(merged, a[0]), a[1:]
		} else {
			merged, b = appendSpan(merged, b[0]), b[1:]
		}
	}
	for _, s := range a {
		merged = appendSpan(merged, s)
	}
	for _, s := range b {
		merged = appendSpan(merged, s)
	}
	return merged
}

// appendSpan lets a span that overlaps the last one, or touches it, go up in it.
func appendSpan(spans []span, next span) []span {
	last := len(spans) - 1
	if last < 0 || next.from > spans[last].to+1 {
		return append(spans, next)
	}
	spans[last].to = max(spans[last].to, next.to)
	return spans
}

func repOk(rep int) bool {
	return rep >= 0 && rep < MaxReps
}

func runOk(r Run) bool {
	return repOk(r.Rep) && r.From >= 1 && r.From <= r.To && r.To <= MaxSeq
}

func followsWithGap(r Run, before Run) bool {
	if r.Rep != before.Rep {
		return r.Rep > before.Rep
	}
	return r.From > before.To+1
}

// ContextOk says whether a context is valid.
func ContextOk(c Context) bool {
	if len(c.Runs) > MaxRuns {
		return false
	}
	for i, r := range c.Runs {
		if !runOk(r) || i > 0 && !followsWithGap(r, c.Runs[i-1]) {
			return false
		}
	}
	return true
}

// HasDot says whether a dot is in a context.
func HasDot(c Context, d Dot) bool {
	m, ok := openContext(c)
	return ok && m.has(d)
}

// AddDot adds a dot.
func AddDot(c Context, d Dot) (Context, bool) {
	return Union(c, Context{Runs: []Run{{d.Rep, d.Seq, d.Seq}}})
}

// Union joins contexts.
func Union(a Context, b Context) (Context, bool) {
	ma, okA := openContext(a)
	mb, okB := openContext(b)
	if !okA || !okB {
		return Context{}, false
	}
	both := ma.union(mb)
	if both.count() > MaxRuns {
		return Context{}, false
	}
	return both.context(), true
}

// Covers says whether a context has all dots of another.
func Covers(a Context, b Context) bool {
	ma, okA := openContext(a)
	mb, okB := openContext(b)
	return okA && okB && ma.holdsAll(mb)
}

// NextDot gives the next dot of a replica.
func NextDot(c Context, rep int) (Dot, bool) {
	m, ok := openContext(c)
	if !ok {
		return Dot{}, false
	}
	return m.next(rep)
}

// PutContext writes a context.
func PutContext(c Context) ([]byte, bool) {
	m, ok := openContext(c)
	if !ok {
		return nil, false
	}
	return m.appendTo(nil), true
}

func (m runMap) appendTo(b []byte) []byte {
	b = appendUvarint(b, uint64(len(m)))
	for _, rep := range slices.Sorted(maps.Keys(m)) {
		b = appendUvarint(b, uint64(rep))
		b = appendSpans(b, m[rep])
	}
	return b
}

// appendSpans counts from the first number that a span could begin with, which is what leaves no room for a second form.
func appendSpans(b []byte, spans []span) []byte {
	b = appendUvarint(b, uint64(len(spans)))
	least := 1
	for _, s := range spans {
		b = appendUvarint(b, uint64(s.from-least))
		b = appendUvarint(b, uint64(s.to-s.from))
		least = s.to + 2
	}
	return b
}

// GetContext reads a context.
func GetContext(b []byte, pos int) (Context, int, int) {
	c := cursor{b, pos}
	m, err := c.runs()
	if err != nil {
		return Context{}, placeOf(err), 1
	}
	return m.context(), c.at, 0
}

func (c *cursor) runs() (runMap, error) {
	begin := c.at
	m := runMap{}
	if err := c.replicas(m); err != nil {
		return nil, &placeError{"context", begin, err}
	}
	return m, nil
}

func (c *cursor) replicas(m runMap) error {
	count, err := c.number(MaxReps)
	if err != nil {
		return err
	}
	left := MaxRuns
	before := -1
	for range count {
		begin := c.at
		rep, spans, err := c.replica(before, left)
		if err != nil {
			return &placeError{"replica", begin, err}
		}
		m[rep] = spans
		left -= len(spans)
		before = rep
	}
	return nil
}

// replica is told how many runs are left, so that no count makes it read more than a valid context has.
func (c *cursor) replica(before int, left int) (int, []span, error) {
	rep, err := c.number(MaxReps - 1)
	if err != nil {
		return 0, nil, err
	}
	if rep <= before {
		return 0, nil, errOrder
	}
	spans, err := c.spans(left)
	return rep, spans, err
}

func (c *cursor) spans(left int) ([]span, error) {
	count, err := c.number(left)
	if err != nil {
		return nil, err
	}
	if count == 0 {
		return nil, errNoRuns
	}
	var spans []span
	least := 1
	for range count {
		begin := c.at
		s, err := c.span(least)
		if err != nil {
			return nil, &placeError{"run", begin, err}
		}
		spans = append(spans, s)
		least = s.to + 2
	}
	return spans, nil
}

// span asks for what is left up to MaxSeq, which is below 0 where no further run has room.
func (c *cursor) span(least int) (span, error) {
	skip, err := c.number(MaxSeq - least)
	if err != nil {
		return span{}, err
	}
	from := least + skip
	more, err := c.number(MaxSeq - from)
	if err != nil {
		return span{}, err
	}
	return span{from, from + more}, nil
}

// number compares as uint64, since a varint may be greater than any int.
func (c *cursor) number(most int) (int, error) {
	v, err := c.uvarint()
	if err != nil {
		return 0, err
	}
	if most < 0 || v > uint64(most) {
		return 0, errLimit
	}
	return int(v), nil
}
