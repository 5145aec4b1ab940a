package tomb_test

import (
	"math"
	"slices"
	"testing"

	"nozzle/api"
	"nozzle/draws"
	"nozzle/tomb"
)

// notSpans are numbers that no tomb has as its span.
var notSpans = []int{math.MinInt, -1 << 32, -64, -1, 0, 65, 66, 128, 256, 257, 1 << 32, 1<<32 + 1, math.MaxInt}

// nowhere are numbers that are no connection's.
var nowhere = []int{math.MinInt, math.MinInt + 1, -1 << 60, -1 << 32, -256, -65, -64, -2, -1, 0, 1<<30 + 1, 1<<30 + 2, 1<<30 + 64, 1<<30 + 256, 1 << 31, 1 << 32, 1<<32 + 1, 1 << 60, 1<<60 + 1, math.MaxInt - 1, math.MaxInt}

// model does slowly, as the document says it, what a tomb does: it keeps all numbers that were closed.
type model struct {
	span   int
	least  int // below it all are closed
	closed map[int]bool
}

func newModel(span, least int) *model { return &model{span, least, map[int]bool{}} }

func (m *model) isClosed(n int) bool { return n >= 1 && (n < m.least || m.closed[n]) }

func (m *model) floor() int {
	n := m.least
	for m.closed[n] {
		n++
	}
	return n
}

func (m *model) close(n int) (bool, api.Errno) {
	if n < 1 || n > 1<<30 || n > m.floor()+m.span-1 {
		return false, api.ErrRange
	}
	before := m.isClosed(n)
	m.closed[n] = true
	return !before, api.OK
}

func (m *model) may(n int) bool {
	return n >= m.floor() && n <= m.floor()+m.span-1 && n <= 1<<30 && !m.isClosed(n)
}

func (m *model) count() int {
	floor, count := m.floor(), 0
	for n := range m.closed {
		if n > floor {
			count++
		}
	}
	return count
}

func (m *model) open(most int) []int {
	var out []int
	for n := m.floor(); n <= m.floor()+m.span-1; n++ {
		if m.may(n) && len(out) < most {
			out = append(out, n)
		}
	}
	return out
}

func (m *model) fork() *model {
	other := newModel(m.span, m.least)
	for n := range m.closed {
		other.closed[n] = true
	}
	return other
}

// pair is a tomb, and the model of it.
type pair struct {
	t *testing.T
	x *tomb.Tomb
	m *model
}

func newPair(t *testing.T, span int) pair {
	t.Helper()
	x, e := tomb.New(span)
	if x == nil || e != api.OK {
		t.Fatalf("New(%d): %v, %d", span, x, e)
	}
	return pair{t, x, newModel(span, 1)}
}

// pairAt is one whose numbers below a floor are closed.
func pairAt(t *testing.T, span, floor int) pair {
	return pair{t, tomb.At(span, floor), newModel(span, floor)}
}

func (p pair) fork() pair { return pair{p.t, p.x.Fork(), p.m.fork()} }

// close closes numbers in both.
func (p pair) close(numbers ...int) {
	p.t.Helper()
	for _, n := range numbers {
		floor := p.m.floor()
		got, e := p.x.Close(n)
		if want, wantE := p.m.close(n); got != want || e != wantE {
			p.t.Errorf("Close(%d) with span %d, floor %d: %v, %d, not %v, %d", n, p.m.span, floor, got, e, want, wantE)
		}
	}
}

// around is numbers in, below and beyond the span, and far from it.
func (p pair) around() []int {
	var out []int
	for n := p.m.floor() - 260; n < p.m.floor()+p.m.span+260; n++ {
		out = append(out, n)
	}
	return append(append(out, 1, 2, 1<<30-1, 1<<30), nowhere...)
}

// agree asks both everything that a tomb tells without changing it.
func (p pair) agree(what string) {
	p.t.Helper()
	if p.x.Floor() != p.m.floor() || p.x.Count() != p.m.count() {
		p.t.Errorf("%s: Floor %d, Count %d, not %d, %d", what, p.x.Floor(), p.x.Count(), p.m.floor(), p.m.count())
	}
	for _, n := range p.around() {
		if p.x.Closed(n) != p.m.isClosed(n) {
			p.t.Errorf("%s: Closed(%d) %v with floor %d", what, n, p.x.Closed(n), p.m.floor())
		}
		if p.x.May(n) != p.m.may(n) {
			p.t.Errorf("%s: May(%d) %v with floor %d", what, n, p.x.May(n), p.m.floor())
		}
	}
	for _, most := range []int{math.MinInt, -1 << 32, -1, 0, 1, 2, 3, p.m.span - 1, p.m.span, p.m.span + 1, 64, 65, 256, 1 << 32, 1<<32 + 1, math.MaxInt} {
		if got, want := p.x.Open(most), p.m.open(most); !slices.Equal(got, want) {
			p.t.Errorf("%s: Open(%d) %v, not %v", what, most, got, want)
		}
	}
}

// TestAnyCalls holds any calls against the model.
func TestAnyCalls(t *testing.T) {
	for _, span := range []int{1, 2, 3, 4, 5, 8, 31, 32, 33, 63, 64} {
		s := draws.New(draws.Key(20, span))
		p := newPair(t, span)
		for range 400 {
			switch s.Below(10) {
			case 0:
				p.close(nowhere[s.Below(len(nowhere))])
			case 1:
				p.close(p.m.floor())
			case 2:
				p = p.fork()
			default:
				p.close(p.m.floor() - 3 + s.Below(span+6))
			}
			if s.Below(10) == 0 {
				p.agree("any calls")
			}
		}
		p.agree("at last")
	}
}

// FuzzTombAgrees holds calls that the fuzzer makes up against the model.
func FuzzTombAgrees(f *testing.F) {
	f.Add(byte(4), []byte{1, 0, 3, 3, 200, 255, 0})
	f.Add(byte(64), []byte{63, 64, 65, 0, 1, 2})
	f.Add(byte(1), []byte{})
	f.Fuzz(func(t *testing.T, span byte, calls []byte) {
		p := newPair(t, int(span)%64+1)
		for _, c := range calls[:min(len(calls), 300)] {
			if c >= 200 {
				p.close(p.m.floor() + int(c) - 220)
			} else {
				p.close(p.m.floor() + int(c)%(p.m.span+1))
			}
		}
		p.agree("in the end")
	})
}
