package score_test

import (
	"math"
	"slices"
	"testing"

	"nozzle/api"
	"nozzle/draws"
	"nozzle/score"
)

// notPaths are numbers that no path has.
var notPaths = []int{-1, -2, -8, 8, 9, 16, 256, 1 << 32, -1 << 32, math.MaxInt, math.MinInt}

// notMade are scores that neither New nor Fork made.
func notMade() map[string]*score.Score {
	_, _ = score.New(3, 2) // a score elsewhere makes nothing of these
	var zero score.Score
	var none *score.Score
	refused, _ := score.New(9, 1)
	return map[string]*score.Score{"nil": nil, "zero": {}, "new": new(score.Score), "refused": refused, "its fork": zero.Fork(), "fork of nil": none.Fork()}
}

// onePath is what a model knows of a path.
type onePath struct {
	acks, nacks, bounces int
	suspended            bool
	left                 int
}

// model does slowly, as the document says it, what a score does.
type model struct {
	rest  int
	paths []onePath
}

func newModel(paths, rest int) *model { return &model{rest: rest, paths: make([]onePath, paths)} }

func (m *model) active() []int {
	var out []int
	for i, p := range m.paths {
		if !p.suspended {
			out = append(out, i)
		}
	}
	return out
}

func (m *model) ack(path int) { m.paths[path].acks++ }

func (m *model) nack(path int) {
	m.paths[path].nacks++
	m.suspend(path)
}

func (m *model) bounce(path int) {
	m.paths[path].bounces++
	m.suspend(path)
}

func (m *model) suspend(path int) {
	p := m.paths[path]
	bad := p.nacks+p.bounces+p.bounces > p.acks+4
	only := slices.Equal(m.active(), []int{path})
	if bad && !p.suspended && !only && m.rest != 0 {
		m.paths[path] = onePath{suspended: true, left: m.rest}
	}
}

func (m *model) tick() []int {
	var back []int
	for i := range m.paths {
		p := &m.paths[i]
		if p.suspended {
			p.left--
			if p.left == 0 {
				p.suspended = false
				back = append(back, i)
			}
		}
	}
	return back
}

func (m *model) clear() {
	for i, p := range m.paths {
		m.paths[i] = onePath{suspended: p.suspended, left: p.left}
	}
}

func (m *model) fork() *model { return &model{rest: m.rest, paths: slices.Clone(m.paths)} }

// made is a score, and the model of it.
func made(t *testing.T, paths, rest int) (*score.Score, *model) {
	t.Helper()
	s, e := score.New(paths, rest)
	if s == nil || e != api.OK {
		t.Fatalf("New(%d, %d): %v, %d", paths, rest, s, e)
	}
	return s, newModel(paths, rest)
}

// agree asks everything that a score tells without changing it.
func agree(t *testing.T, what string, s *score.Score, m *model) {
	t.Helper()
	if got := s.Active(); !slices.Equal(got, m.active()) {
		t.Errorf("%s: Active %v, not %v", what, got, m.active())
	}
	next := 0
	for path, active := range s.Paths() {
		if path != next || path >= len(m.paths) || active == m.paths[path].suspended {
			t.Errorf("%s: Paths yields %d, %v", what, path, active)
		}
		next++
	}
	if next != len(m.paths) {
		t.Errorf("%s: Paths yields %d paths, not %d", what, next, len(m.paths))
	}
	for i, p := range m.paths {
		if got := s.Counts(i); got != [3]int{p.acks, p.nacks, p.bounces} {
			t.Errorf("%s: Counts(%d) %v, not %v", what, i, got, p)
		}
		if got := s.Rests(i); got != p.left {
			t.Errorf("%s: Rests(%d) %d, not %d", what, i, got, p.left)
		}
	}
	for _, path := range append([]int{len(m.paths)}, notPaths...) {
		if n, c := s.Rests(path), s.Counts(path); n != 0 || c != [3]int{} {
			t.Errorf("%s: Rests(%d) %d, Counts %v", what, path, n, c)
		}
	}
}

// times calls a method, and that of the model, n times for a path.
func times(t *testing.T, n int, call func(int) api.Errno, of func(int), path int) {
	t.Helper()
	for range n {
		if e := call(path); e != api.OK {
			t.Errorf("path %d: error %d", path, e)
		}
		of(path)
	}
}

// tick lets time go on for a score and its model.
func tick(t *testing.T, what string, s *score.Score, m *model) {
	t.Helper()
	if got, want := s.Tick(), m.tick(); !slices.Equal(got, want) {
		t.Errorf("%s: Tick %v, not %v", what, got, want)
	}
	agree(t, what, s, m)
}

// P7.1: New, Ack, Nack, Bounce.

func TestNewHasActivePathsWithoutCounts(t *testing.T) {
	for paths := 1; paths <= api.MaxPaths; paths++ {
		for _, rest := range []int{0, 1, 2, 9, api.MaxSpan - 1, api.MaxSpan} {
			s, m := made(t, paths, rest)
			agree(t, "new", s, m)
			if len(s.Active()) != paths {
				t.Errorf("New(%d, %d): active are %v", paths, rest, s.Active())
			}
		}
	}
}

func TestNewRefuses(t *testing.T) {
	for _, c := range [][2]int{
		{0, 0}, {0, 1}, {-1, 1}, {-8, 0}, {9, 0}, {9, 1}, {16, 5}, {math.MaxInt, 1}, {math.MinInt, 1}, {1 << 32, 1}, {1<<32 + 1, 1},
		{1, -1}, {8, -1}, {2, api.MaxSpan + 1}, {1, api.MaxSpan + 1}, {4, math.MaxInt}, {4, math.MinInt}, {2, 1 << 32}, {2, 1<<32 + 1},
		{0, -1}, {9, api.MaxSpan + 1}, {-1, math.MinInt},
	} {
		if s, e := score.New(c[0], c[1]); s != nil || e != api.ErrScore {
			t.Errorf("New(%d, %d): %v, %d", c[0], c[1], s, e)
		}
	}
}

func TestEachMethodHasItsOwnCount(t *testing.T) {
	for paths := 1; paths <= api.MaxPaths; paths++ {
		for path := range paths {
			s, m := made(t, paths, 9)
			times(t, 7, s.Ack, m.ack, path)
			times(t, 3, s.Nack, m.nack, path)
			times(t, 2, s.Bounce, m.bounce, path)
			agree(t, "counted", s, m)
			if got := s.Counts(path); got != [3]int{7, 3, 2} {
				t.Errorf("Counts(%d) of %d: %v", path, paths, got)
			}
		}
	}
}

func TestExampleOfTheChapter(t *testing.T) {
	s, _ := made(t, 2, 9)
	for range 5 {
		if !slices.Equal(s.Active(), []int{0, 1}) || s.Rests(0) != 0 {
			t.Error("suspended too early:", s.Active(), s.Rests(0), s.Counts(0))
		}
		s.Nack(0)
	}
	if !slices.Equal(s.Active(), []int{1}) || s.Rests(0) != 9 || s.Rests(1) != 0 || s.Counts(0) != [3]int{} {
		t.Error(s.Active(), s.Rests(0), s.Rests(1), s.Counts(0))
	}
}

// TestSuspendedOnlyWhenBad tries all small counts, and the last call of both kinds.
func TestSuspendedOnlyWhenBad(t *testing.T) {
	for acks := range 9 {
		for nacks := range acks + 6 {
			for bounces := range (acks+6-nacks)/2 + 1 {
				s, m := made(t, 3, 5)
				times(t, acks, s.Ack, m.ack, 1)
				times(t, nacks, s.Nack, m.nack, 1)
				times(t, bounces, s.Bounce, m.bounce, 1)
				agree(t, "nacks, then bounces", s, m)
				if bad, rests := nacks+2*bounces > acks+4, s.Rests(1) > 0; bad != rests {
					t.Errorf("%d acks, %d nacks, %d bounces: suspended %v", acks, nacks, bounces, rests)
				}
				s, m = made(t, 3, 5)
				times(t, acks, s.Ack, m.ack, 1)
				times(t, bounces, s.Bounce, m.bounce, 1)
				times(t, nacks, s.Nack, m.nack, 1)
				agree(t, "bounces, then nacks", s, m)
			}
		}
	}
}

func TestThePathsOfOthersDoNotCount(t *testing.T) {
	s, m := made(t, 4, 5)
	for path := range 4 {
		times(t, 4, s.Nack, m.nack, path)
	}
	agree(t, "four nacks each", s, m)
	if len(s.Active()) != 4 {
		t.Error("active are", s.Active())
	}
	times(t, 1, s.Nack, m.nack, 2)
	agree(t, "one more", s, m)
	if !slices.Equal(s.Active(), []int{0, 1, 3}) || s.Counts(1) != [3]int{0, 4, 0} {
		t.Error(s.Active(), s.Counts(1))
	}
}

func TestTheOnlyActivePathIsNotSuspended(t *testing.T) {
	for paths := 1; paths <= api.MaxPaths; paths++ {
		for last := range paths {
			s, m := made(t, paths, 3)
			for path := range paths {
				if path != last {
					times(t, 5, s.Nack, m.nack, path)
				}
			}
			times(t, 20, s.Nack, m.nack, last)
			times(t, 20, s.Bounce, m.bounce, last)
			agree(t, "the only one", s, m)
			if !slices.Equal(s.Active(), []int{last}) || s.Counts(last) != [3]int{0, 20, 20} {
				t.Errorf("%d of %d: active are %v, %v", last, paths, s.Active(), s.Counts(last))
			}
		}
	}
}

func TestTheOnlyOneIsSuspendedByTheNextOnceAnotherIsBack(t *testing.T) {
	s, m := made(t, 2, 2)
	times(t, 5, s.Nack, m.nack, 0)
	times(t, 9, s.Nack, m.nack, 1)
	tick(t, "first", s, m)
	tick(t, "second", s, m)
	if len(s.Active()) != 2 || s.Counts(1) != [3]int{0, 9, 0} {
		t.Error("a tick suspended it:", s.Active(), s.Counts(1))
	}
	times(t, 1, s.Ack, m.ack, 1)
	if len(s.Active()) != 2 || s.Counts(1) != [3]int{1, 9, 0} {
		t.Error("an ack suspended it:", s.Active(), s.Counts(1))
	}
	times(t, 1, s.Bounce, m.bounce, 1)
	agree(t, "a bounce", s, m)
	if !slices.Equal(s.Active(), []int{0}) || s.Rests(1) != 2 || s.Counts(1) != [3]int{} {
		t.Error("a bounce did not suspend it:", s.Active(), s.Counts(1))
	}
}

func TestRestZeroSuspendsNone(t *testing.T) {
	for paths := 1; paths <= api.MaxPaths; paths++ {
		s, m := made(t, paths, 0)
		for path := range paths {
			times(t, 30, s.Nack, m.nack, path)
			times(t, 30, s.Bounce, m.bounce, path)
			if s.Counts(path) != [3]int{0, 30, 30} {
				t.Errorf("Counts(%d): %v", path, s.Counts(path))
			}
		}
		tick(t, "no rest", s, m)
		if len(s.Active()) != paths {
			t.Error("active are", s.Active())
		}
	}
}

func TestASuspendedPathCountsAndRestsNoLonger(t *testing.T) {
	s, m := made(t, 3, 4)
	times(t, 5, s.Nack, m.nack, 0)
	tick(t, "once", s, m)
	times(t, 8, s.Nack, m.nack, 0)
	times(t, 8, s.Bounce, m.bounce, 0)
	times(t, 2, s.Ack, m.ack, 0)
	agree(t, "while it rests", s, m)
	if s.Rests(0) != 3 || s.Counts(0) != [3]int{2, 8, 8} {
		t.Error(s.Rests(0), s.Counts(0))
	}
	for range 3 {
		tick(t, "until it is back", s, m)
	}
	if len(s.Active()) != 3 || s.Counts(0) != [3]int{2, 8, 8} {
		t.Error("back, with what was counted meanwhile:", s.Active(), s.Counts(0))
	}
	times(t, 1, s.Nack, m.nack, 0) // bad at once
	agree(t, "again", s, m)
	if s.Rests(0) != 4 || s.Counts(0) != [3]int{} {
		t.Error(s.Rests(0), s.Counts(0))
	}
}

func TestNoSuchPath(t *testing.T) {
	for paths := 1; paths <= api.MaxPaths; paths++ {
		s, m := made(t, paths, 3)
		times(t, 1, s.Ack, m.ack, paths-1)
		for _, path := range append([]int{paths}, notPaths...) {
			for range 6 {
				if a, n, b := s.Ack(path), s.Nack(path), s.Bounce(path); a != api.ErrRange || n != api.ErrRange || b != api.ErrRange {
					t.Errorf("path %d of %d: %d, %d, %d", path, paths, a, n, b)
				}
			}
			agree(t, "no such path", s, m)
		}
	}
}

func TestErrNilBeforeErrRange(t *testing.T) {
	for what, s := range notMade() {
		for _, path := range append([]int{0, 1, 7}, notPaths...) {
			if a, n, b := s.Ack(path), s.Nack(path), s.Bounce(path); a != api.ErrNil || n != api.ErrNil || b != api.ErrNil {
				t.Errorf("%s, path %d: %d, %d, %d", what, path, a, n, b)
			}
		}
	}
}

// P7.2: the others.

func TestTickTellsThoseThatAreBack(t *testing.T) {
	s, m := made(t, 8, 3)
	suspend := func(path int) { times(t, 3, s.Bounce, m.bounce, path) }
	if got := s.Tick(); len(got) != 0 {
		t.Error("none rests:", got)
	}
	m.tick()
	suspend(6)
	suspend(1)
	tick(t, "6 and 1", s, m)
	suspend(4)
	tick(t, "4", s, m)
	if s.Rests(6) != 1 || s.Rests(1) != 1 || s.Rests(4) != 2 || s.Rests(0) != 0 {
		t.Error(s.Rests(6), s.Rests(1), s.Rests(4), s.Rests(0))
	}
	for _, want := range [][]int{{1, 6}, {4}, nil, nil} {
		got := s.Tick()
		m.tick()
		agree(t, "ticked", s, m)
		if !slices.Equal(got, want) {
			t.Errorf("Tick %v, not %v", got, want)
		}
	}
}

func TestTickOfTheLongestRest(t *testing.T) {
	s, m := made(t, 2, api.MaxSpan)
	times(t, 5, s.Nack, m.nack, 1)
	for n := api.MaxSpan; n > 1; n-- {
		if s.Rests(1) != n || len(s.Tick()) != 0 {
			t.Fatal(n, s.Rests(1))
		}
	}
	if got := s.Tick(); !slices.Equal(got, []int{1}) || s.Rests(1) != 0 || len(s.Active()) != 2 {
		t.Error(got, s.Rests(1), s.Active())
	}
}

func TestRestOfOneTick(t *testing.T) {
	s, m := made(t, 2, 1)
	for range 5 {
		times(t, 5, s.Nack, m.nack, 0)
		agree(t, "rests", s, m)
		tick(t, "back", s, m)
	}
}

func TestClearLeavesRests(t *testing.T) {
	s, m := made(t, 4, 6)
	times(t, 5, s.Nack, m.nack, 0)
	tick(t, "before", s, m)
	for path := range 4 {
		times(t, 3, s.Ack, m.ack, path)
		times(t, 2, s.Nack, m.nack, path)
		times(t, 2, s.Bounce, m.bounce, path)
	}
	s.Clear()
	m.clear()
	agree(t, "cleared", s, m)
	for path := range 4 {
		if s.Counts(path) != [3]int{} {
			t.Errorf("Counts(%d): %v", path, s.Counts(path))
		}
	}
	if s.Rests(0) != 5 || !slices.Equal(s.Active(), []int{1, 2, 3}) {
		t.Error(s.Rests(0), s.Active())
	}
	times(t, 4, s.Nack, m.nack, 1) // counted from 0 again
	agree(t, "after", s, m)
	times(t, 1, s.Nack, m.nack, 1)
	agree(t, "one more", s, m)
	tick(t, "later", s, m)
}

func TestPathsAreYieldedAsFarAsTheyAreRangedOver(t *testing.T) {
	s, m := made(t, 6, 5)
	times(t, 5, s.Nack, m.nack, 2)
	for until := range 6 {
		var got []int
		for path, active := range s.Paths() {
			if active == (path == 2) {
				t.Errorf("path %d: active %v", path, active)
			}
			got = append(got, path)
			if path == until {
				break
			}
		}
		if want := []int{0, 1, 2, 3, 4, 5}[:until+1]; !slices.Equal(got, want) {
			t.Errorf("%v, not %v", got, want)
		}
	}
}

func TestPathsAreAsTheyWereWhenAsked(t *testing.T) {
	s, m := made(t, 3, 2)
	paths := s.Paths()
	times(t, 5, s.Nack, m.nack, 1)
	for range 2 { // also when they are ranged over again
		n := 0
		for path, active := range paths {
			if path != n || !active {
				t.Errorf("%d, %v", path, active)
			}
			n++
		}
		if n != 3 {
			t.Error(n, "paths")
		}
	}
	for path, active := range s.Paths() {
		if active == (path == 1) {
			t.Errorf("%d, %v", path, active)
		}
		if path == 0 {
			s.Bounce(2)
			s.Bounce(2)
			s.Bounce(2)
			s.Tick()
			s.Tick()
		}
	}
	if len(s.Active()) != 3 {
		t.Error("what was done meanwhile did not last:", s.Active())
	}
}

func TestAnswersAreNewMemory(t *testing.T) {
	s, m := made(t, 3, 1)
	active, again := s.Active(), s.Active()
	c := s.Counts(0)
	_ = append(active, 9, 9, 9)
	clear(active)
	c[0], c[1], c[2] = 9, 9, 9
	if !slices.Equal(again, []int{0, 1, 2}) {
		t.Error("two answers share their memory:", again)
	}
	agree(t, "its answers were changed", s, m)
	times(t, 5, s.Nack, m.nack, 0)
	times(t, 5, s.Nack, m.nack, 2)
	if !slices.Equal(again, []int{0, 1, 2}) {
		t.Error("what Active answered changes with the score:", again)
	}
	back := s.Tick()
	m.tick()
	clear(back)
	agree(t, "what Tick answered was changed", s, m)
}

func TestForkGoesItsOwnWay(t *testing.T) {
	s, m := made(t, 4, 3)
	times(t, 5, s.Nack, m.nack, 3)
	times(t, 2, s.Bounce, m.bounce, 1)
	times(t, 6, s.Ack, m.ack, 0)
	tick(t, "before", s, m)
	fork, of := s.Fork(), m.fork()
	agree(t, "fork", fork, of)
	times(t, 1, s.Nack, m.nack, 1)
	tick(t, "the score", s, m)
	agree(t, "the fork, after the score went on", fork, of)
	s.Clear()
	m.clear()
	agree(t, "the fork, after the score was cleared", fork, of)
	second, ofSecond := fork.Fork(), of.fork()
	times(t, 9, fork.Bounce, of.bounce, 2)
	times(t, 1, fork.Ack, of.ack, 3)
	for range 3 {
		tick(t, "the fork", fork, of)
		agree(t, "the score, after the fork went on", s, m)
		agree(t, "the fork of the fork", second, ofSecond)
	}
	times(t, 5, second.Nack, ofSecond.nack, 0)
	tick(t, "the fork of the fork", second, ofSecond)
	agree(t, "the fork", fork, of)
}

func TestScoresGoTheirOwnWays(t *testing.T) {
	a, ofA := made(t, 2, 3)
	b, ofB := made(t, 2, 3)
	times(t, 5, a.Nack, ofA.nack, 0)
	agree(t, "b", b, ofB)
	times(t, 5, b.Nack, ofB.nack, 1)
	tick(t, "b", b, ofB)
	agree(t, "a", a, ofA)
}

func TestScoreThatIsNotMade(t *testing.T) {
	for what, s := range notMade() {
		for range 3 {
			s.Ack(0) // nor does any of these make it one
			s.Nack(0)
			s.Bounce(0)
			s.Clear()
			if l, back := s.Active(), s.Tick(); len(l) != 0 || len(back) != 0 {
				t.Errorf("%s: Active %v, Tick %v", what, l, back)
			}
			for _, path := range append([]int{0, 1, 7}, notPaths...) {
				if n, c := s.Rests(path), s.Counts(path); n != 0 || c != [3]int{} {
					t.Errorf("%s: Rests(%d) %d, Counts %v", what, path, n, c)
				}
			}
			for path, active := range s.Paths() {
				t.Errorf("%s: Paths yields %d, %v", what, path, active)
			}
			if f := s.Fork(); f != nil {
				t.Errorf("%s: Fork %v", what, f)
			}
		}
	}
}

// P7.3, P7.4: never none, recovery.

// anyCalls does to a score and its model what n drawn numbers tell.
func anyCalls(t *testing.T, seed uint64, s *score.Score, m *model, n int) {
	t.Helper()
	source := draws.New(seed)
	for range n {
		path := source.Below(len(m.paths))
		switch source.Below(12) {
		case 0, 1:
			times(t, 1, s.Ack, m.ack, path)
		case 2:
			tick(t, "any tick", s, m)
		case 3, 4, 5:
			times(t, 1, s.Bounce, m.bounce, path)
		default:
			times(t, 1, s.Nack, m.nack, path)
		}
		if len(s.Active()) == 0 {
			t.Fatal("none is active")
		}
	}
	agree(t, "any calls", s, m)
}

func TestAtLeastOneIsAlwaysActive(t *testing.T) {
	for paths := 1; paths <= api.MaxPaths; paths++ {
		for _, rest := range []int{0, 1, 3, 20, api.MaxSpan} {
			s, m := made(t, paths, rest)
			anyCalls(t, draws.Key(paths, rest), s, m, 400)
		}
	}
}

func TestAllAreActiveAfterARest(t *testing.T) {
	for paths := 1; paths <= api.MaxPaths; paths++ {
		for _, rest := range []int{0, 1, 2, 7, 40} {
			s, m := made(t, paths, rest)
			for round := range 4 {
				anyCalls(t, draws.Key(paths, rest, round), s, m, 100)
				for path := range rest {
					tick(t, "recovery", s, m)
					times(t, 1, s.Ack, m.ack, path%paths) // acks do not hinder it
				}
				if len(s.Active()) != paths {
					t.Errorf("%d paths, rest %d: active are %v", paths, rest, s.Active())
				}
			}
		}
	}
}

func FuzzScoreAgrees(f *testing.F) {
	f.Add(byte(2), uint16(9), []byte{1, 1, 1, 1, 1, 3, 4, 5})
	f.Add(byte(8), uint16(1), []byte{2, 2, 2, 12, 12, 12, 3, 22, 22, 22, 4})
	f.Add(byte(1), uint16(0), []byte{1, 2, 1, 2, 1, 2, 3})
	f.Add(byte(9), uint16(3), []byte{})
	f.Fuzz(func(t *testing.T, paths byte, rest uint16, ops []byte) {
		if paths < 1 || paths > api.MaxPaths {
			if s, e := score.New(int(paths), int(rest)); s != nil || e != api.ErrScore {
				t.Errorf("New(%d, %d): %v, %d", paths, rest, s, e)
			}
			return
		}
		s, m := made(t, int(paths), int(rest))
		for _, op := range ops {
			path := int(op) / 8 % int(paths)
			switch op % 8 {
			case 0:
				times(t, 1, s.Ack, m.ack, path)
			case 1, 7:
				times(t, 1, s.Nack, m.nack, path)
			case 2:
				times(t, 1, s.Bounce, m.bounce, path)
			case 3:
				tick(t, "any tick", s, m)
			case 4:
				s.Clear()
				m.clear()
			case 5:
				s.Fork().Clear() // what becomes of a fork is nothing to s
				s.Fork().Bounce(path)
				s = s.Fork()
			case 6:
				if s.Nack(path+int(paths)) != api.ErrRange {
					t.Error("there is no path", path+int(paths))
				}
			}
			agree(t, "any calls", s, m)
		}
	})
}
