package perm_test

import (
	"math"
	"math/big"
	"slices"
	"testing"

	"nozzle/api"
	"nozzle/draws"
	"nozzle/perm"
)

// seeds are seeds of many sorts.
var seeds = []uint64{0, 1, 2, 7, 42, 1234567, 1 << 31, 1 << 32, 1<<63 - 1, 1 << 63, math.MaxUint64 - 1, math.MaxUint64}

// notValid are paths with which there is no list.
func notValid() [][]int {
	return [][]int{
		nil, {}, // none
		{8}, {-1}, {9}, {16}, {256}, {1 << 32}, {-1 << 32}, {-8}, {math.MaxInt}, {math.MinInt},
		{0, 8}, {8, 0}, {3, -1}, {-1, 3}, {1, 2, 9}, {0, 1, 2, 3, 4, 5, 6, 8}, {-1, 0, 1, 2, 3, 4, 5, 6},
		{0, 0}, {1, 1}, {7, 7}, {2, 3, 2}, {3, 2, 2}, {0, 1, 2, 3, 4, 5, 6, 6}, {7, 0, 1, 2, 3, 4, 5, 7},
		{0, 1, 2, 3, 4, 5, 6, 7, 8}, {0, 1, 2, 3, 4, 5, 6, 7, 0}, {0, 1, 2, 3, 4, 5, 6, 7, 7}, // nine
		{0, 1, 2, 3, 4, 5, 6, 7, 0, 1, 2, 3, 4, 5, 6, 7}, make([]int, 1<<16),
	}
}

// valid are all that valid paths can be, in increasing order.
func valid() [][]int {
	var out [][]int
	for bits := 1; bits < 1<<api.MaxPaths; bits++ {
		var paths []int
		for path := range api.MaxPaths {
			if bits>>path&1 == 1 {
				paths = append(paths, path)
			}
		}
		out = append(out, paths)
	}
	return out
}

// orders are these paths in some orders.
func orders(paths []int) [][]int {
	back := slices.Clone(paths)
	slices.Reverse(back)
	return [][]int{paths, back, slices.Concat(paths[1:], paths[:1]), draws.Shuffle(draws.New(5), paths)}
}

// notMade are lists that neither New nor Fork made.
func notMade() map[string]*perm.List {
	_, _ = perm.New(1, 0, 1) // a list elsewhere makes nothing of these
	var zero perm.List
	var none *perm.List
	refused, _ := perm.New(1, 8)
	return map[string]*perm.List{"nil": nil, "zero": {}, "new": new(perm.List), "refused": refused, "its fork": zero.Fork(), "fork of nil": none.Fork()}
}

// model does slowly, as the document says it, what a list does.
type model struct {
	seed    uint64
	drawn   int
	paths   []int
	rest    []int
	rounds  int
	sprayed map[int]int
}

func newModel(seed uint64, paths ...int) *model {
	m := &model{seed: seed, sprayed: make(map[int]int)}
	m.renew(paths)
	return m
}

func (m *model) begin() {
	m.rest = slices.Clone(m.paths)
	for k := len(m.rest) - 1; k >= 1; k-- {
		n := new(big.Int).SetUint64(draws.At(m.seed, m.drawn))
		other := int(n.Mod(n, big.NewInt(int64(k+1))).Int64())
		m.rest[k], m.rest[other] = m.rest[other], m.rest[k]
		m.drawn++
	}
	m.rounds++
}

func (m *model) renew(paths []int) {
	rising := slices.Sorted(slices.Values(paths))
	if !slices.Equal(rising, m.paths) {
		m.paths = rising
		m.begin()
	}
}

func (m *model) next() int {
	path := m.rest[0]
	m.rest = m.rest[1:]
	m.sprayed[path]++
	if len(m.rest) == 0 {
		m.begin()
	}
	return path
}

func (m *model) fork() *model {
	other := newModel(m.seed, m.paths...)
	other.drawn, other.rounds, other.rest = m.drawn, m.rounds, slices.Clone(m.rest)
	for path, n := range m.sprayed {
		other.sprayed[path] = n
	}
	return other
}

// made is a list, and the model of it.
func made(t *testing.T, seed uint64, paths ...int) (*perm.List, *model) {
	t.Helper()
	l, e := perm.New(seed, paths...)
	if l == nil || e != api.OK {
		t.Fatalf("New(%d, %v): %v, %d", seed, paths, l, e)
	}
	return l, newModel(seed, paths...)
}

// agree asks everything that a list tells without changing it.
func agree(t *testing.T, what string, l *perm.List, m *model) {
	t.Helper()
	if got := l.Paths(); !slices.Equal(got, m.paths) {
		t.Errorf("%s: Paths %v, not %v", what, got, m.paths)
	}
	if got := l.Left(); !slices.Equal(got, m.rest) {
		t.Errorf("%s: Left %v, not %v", what, got, m.rest)
	}
	if got := l.Peek(); got != m.rest[0] {
		t.Errorf("%s: Peek %d, not %d", what, got, m.rest[0])
	}
	if got := l.Rounds(); got != m.rounds {
		t.Errorf("%s: Rounds %d, not %d", what, got, m.rounds)
	}
	for path, n := range l.Sprayed() {
		if n != m.sprayed[path] {
			t.Errorf("%s: path %d was sprayed %d times, not %d", what, path, n, m.sprayed[path])
		}
	}
}

// spray calls Next n times.
func spray(t *testing.T, what string, l *perm.List, m *model, n int) {
	t.Helper()
	for range n {
		if got, want := l.Next(), m.next(); got != want {
			t.Errorf("%s: Next %d, not %d", what, got, want)
		}
		agree(t, what, l, m)
	}
}

// next is what n calls of Next return.
func next(l *perm.List, n int) []int {
	var out []int
	for range n {
		out = append(out, l.Next())
	}
	return out
}

// P6.1: New, Renew.

func TestNewBeginsARound(t *testing.T) {
	for _, paths := range valid() {
		for _, seed := range seeds {
			l, m := made(t, seed, paths...)
			agree(t, "new", l, m)
			if l.Rounds() != 1 || l.Sprayed() != [8]int{} || len(l.Left()) != len(paths) {
				t.Errorf("New(%d, %v): %d rounds, %v, %v", seed, paths, l.Rounds(), l.Sprayed(), l.Left())
			}
		}
	}
}

func TestNewTakesPathsInAnyOrder(t *testing.T) {
	for _, paths := range valid() {
		for _, order := range orders(paths) {
			l, m := made(t, 42, order...)
			spray(t, "another order", l, m, 2*len(paths)+1)
		}
	}
}

func TestNewRefusesPathsThatAreNotValid(t *testing.T) {
	for _, paths := range notValid() {
		if l, e := perm.New(7, paths...); l != nil || e != api.ErrPerm {
			t.Errorf("New(7, %v): %v, %d", paths, l, e)
		}
	}
	if l, e := perm.New(7); l != nil || e != api.ErrPerm {
		t.Errorf("New(7): %v, %d", l, e)
	}
}

func TestRenewWithTheSamePathsDoesNothing(t *testing.T) {
	for _, paths := range valid() {
		l, m := made(t, 42, paths...)
		for range 2*len(paths) + 1 { // also in the middle of a round
			for _, order := range orders(paths) {
				if e := l.Renew(order...); e != api.OK {
					t.Errorf("Renew(%v): %d", order, e)
				}
				agree(t, "renewed with the same", l, m)
			}
			spray(t, "after the same", l, m, 1)
		}
	}
}

func TestRenewWithOthersBeginsARound(t *testing.T) {
	for _, before := range valid() {
		for _, after := range [][]int{{0}, {7}, {3, 5}, {6, 1, 4}, {0, 1, 2, 3, 4, 5, 6}, {7, 6, 5, 4, 3, 2, 1, 0}} {
			for taken := range len(before) + 1 {
				l, m := made(t, 7, before...)
				spray(t, "before", l, m, taken)
				if e := l.Renew(after...); e != api.OK {
					t.Errorf("Renew(%v): %d", after, e)
				}
				m.renew(after)
				agree(t, "renewed", l, m)
				if !slices.Equal(before, slices.Sorted(slices.Values(after))) && len(l.Left()) != len(after) {
					t.Errorf("Renew(%v) of %v: %v is left", after, before, l.Left())
				}
				spray(t, "after", l, m, len(after)+1)
			}
		}
	}
}

func TestRenewKnownPaths(t *testing.T) {
	l, _ := made(t, 7, 0, 1, 2, 3)
	got := next(l, 5)
	for _, c := range []struct {
		n     int
		paths []int
	}{{4, []int{6, 1, 4}}, {9, []int{0, 1, 2, 3, 4, 5, 6, 7}}, {2, []int{2}}, {4, []int{3, 0}}} {
		if e := l.Renew(c.paths...); e != api.OK {
			t.Error(c.paths, e)
		}
		got = append(got, next(l, c.n)...)
	}
	if want := []int{1, 2, 0, 3, 0, 6, 1, 4, 1, 7, 6, 5, 2, 4, 0, 1, 3, 0, 2, 2, 3, 0, 0, 3}; !slices.Equal(got, want) {
		t.Errorf("%v, not %v", got, want)
	}
	if l.Rounds() != 12 || l.Sprayed() != [8]int{6, 4, 4, 4, 2, 1, 2, 1} {
		t.Error(l.Rounds(), l.Sprayed())
	}
}

func TestRenewBackAndForth(t *testing.T) {
	l, m := made(t, 9, 0, 1, 2)
	for i, paths := range [][]int{{0, 1}, {0, 1, 2}, {2, 1, 0}, {0}, {0}, {1}, {0, 1, 2}, {5, 6, 7}, {0, 1, 2}} {
		if e := l.Renew(paths...); e != api.OK {
			t.Error(paths, e)
		}
		m.renew(paths)
		agree(t, "back and forth", l, m)
		spray(t, "back and forth", l, m, i%3)
	}
	if l.Rounds() < 8 {
		t.Error("Rounds:", l.Rounds())
	}
}

func TestRenewRefusesPathsThatAreNotValid(t *testing.T) {
	for _, has := range [][]int{{0}, {1}, {7}, {2, 3}, {0, 1, 2, 3, 4, 5, 6, 7}} {
		l, m := made(t, 7, has...)
		for _, paths := range notValid() {
			if e := l.Renew(paths...); e != api.ErrPerm {
				t.Errorf("Renew(%v) of %v: %d", paths, has, e)
			}
			agree(t, "refused", l, m)
		}
		spray(t, "after what was refused", l, m, 10)
	}
}

func TestErrNilBeforeErrPerm(t *testing.T) {
	for what, l := range notMade() {
		for _, paths := range append(notValid(), []int{0}, []int{1, 2}) {
			if e := l.Renew(paths...); e != api.ErrNil {
				t.Errorf("%s: Renew(%v): %d", what, paths, e)
			}
		}
	}
}

func TestPathsThatArePassedAreNeitherChangedNorKept(t *testing.T) {
	given := []int{5, 0, 3, 7}
	l, m := made(t, 42, given...)
	if !slices.Equal(given, []int{5, 0, 3, 7}) {
		t.Error("New changed its paths:", given)
	}
	clear(given)
	spray(t, "New", l, m, 9)
	given = []int{6, 2, 1}
	l.Renew(given...)
	m.renew([]int{1, 2, 6})
	if !slices.Equal(given, []int{6, 2, 1}) {
		t.Error("Renew changed its paths:", given)
	}
	clear(given)
	spray(t, "Renew", l, m, 7)
}

// P6.2: Next, Peek.

func TestNextKnownPaths(t *testing.T) {
	for _, c := range []struct {
		seed   uint64
		paths  []int
		want   []int
		rounds int
	}{
		{0, []int{0, 1, 2, 3, 4, 5, 6, 7}, []int{2, 5, 0, 3, 4, 6, 1, 7, 3, 7, 0, 5, 6, 2, 1, 4, 5, 4, 7, 0, 2, 3, 6, 1}, 4},
		{42, []int{5, 0, 3}, []int{0, 5, 3, 3, 5, 0, 5, 0, 3, 5, 0, 3}, 5},
		{7, []int{1, 2}, []int{1, 2, 2, 1, 2, 1, 1, 2, 2, 1}, 6},
		{math.MaxUint64, []int{7, 6, 1, 0}, []int{6, 1, 7, 0, 7, 1, 0, 6, 7, 0, 6, 1}, 4},
		{1 << 63, []int{3}, []int{3, 3, 3, 3}, 5},
		{1234567, []int{2, 4, 6}, []int{6, 4, 2, 6, 4, 2, 4, 2, 6}, 4},
	} {
		l, _ := made(t, c.seed, c.paths...)
		if got := next(l, len(c.want)); !slices.Equal(got, c.want) || l.Rounds() != c.rounds {
			t.Errorf("New(%d, %v): %v in %d rounds, not %v in %d", c.seed, c.paths, got, l.Rounds(), c.want, c.rounds)
		}
	}
}

func TestNextIsAsDefined(t *testing.T) {
	for _, paths := range valid() {
		for _, seed := range seeds {
			l, m := made(t, seed, paths...)
			spray(t, "as defined", l, m, 3*len(paths)+1)
		}
	}
}

func TestNextOfOnePath(t *testing.T) {
	for path := range api.MaxPaths {
		l, m := made(t, 7, path)
		for i := range 100 {
			if l.Peek() != path || l.Next() != path || m.next() != path || l.Rounds() != i+2 {
				t.Fatal(path, i, l.Rounds())
			}
		}
		agree(t, "one path", l, m)
		l.Renew(0, 1, 2, 3, 4) // no number was drawn so far
		m.renew([]int{0, 1, 2, 3, 4})
		agree(t, "after one path", l, m)
	}
}

func TestARoundBeginsWhenTheLastPathIsTaken(t *testing.T) {
	l, _ := made(t, 42, 0, 3, 5)
	for i, want := range []int{3, 2, 1, 3, 2, 1, 3} {
		if len(l.Left()) != want || l.Rounds() != 1+i/3 {
			t.Errorf("after %d: %v is left, %d rounds", i, l.Left(), l.Rounds())
		}
		l.Next()
	}
}

func TestPeekTakesNothing(t *testing.T) {
	l, m := made(t, 42, 0, 3, 5, 6)
	for range 20 {
		for range 3 {
			if got := l.Peek(); got != m.rest[0] {
				t.Errorf("Peek %d, not %d", got, m.rest[0])
			}
		}
		agree(t, "peeked", l, m)
		spray(t, "peeked", l, m, 1)
	}
}

// P6.3: the others.

func TestAnswersAreNewMemory(t *testing.T) {
	l, m := made(t, 42, 0, 3, 5, 6)
	for range 9 {
		left, again := l.Left(), l.Left()
		paths, others := l.Paths(), l.Paths()
		sprayed := l.Sprayed()
		_, _ = append(left, 9, 9, 9, 9), append(paths, 9, 9, 9, 9)
		for i := range left {
			left[i] = -1
		}
		for i := range paths {
			paths[i] = -1
		}
		sprayed[0] = -1
		if !slices.Equal(again, m.rest) || !slices.Equal(others, m.paths) {
			t.Error("two answers share their memory:", again, others)
		}
		agree(t, "its answers were changed", l, m)
		kept := l.Left()
		want := slices.Clone(kept)
		spray(t, "its answers were changed", l, m, 1)
		if !slices.Equal(kept, want) {
			t.Error("what Left answered changes with the list:", kept, want)
		}
	}
}

func TestSprayedGoesOnAfterRenew(t *testing.T) {
	l, _ := made(t, 7, 1, 2)
	next(l, 6)
	l.Renew(4)
	next(l, 5)
	l.Renew(1, 4)
	next(l, 2)
	if got := l.Sprayed(); got != [8]int{0, 4, 3, 0, 6} {
		t.Error("Sprayed:", got)
	}
	if l.Rounds() != 4+6+2 {
		t.Error("Rounds:", l.Rounds())
	}
}

func TestForkGoesItsOwnWay(t *testing.T) {
	for taken := range 9 {
		l, m := made(t, 42, 0, 3, 5, 6)
		spray(t, "before", l, m, taken)
		fork, of := l.Fork(), m.fork()
		agree(t, "fork", fork, of)
		spray(t, "the list", l, m, 11)
		agree(t, "the fork, after the list went on", fork, of)
		l.Renew(1, 2)
		m.renew([]int{1, 2})
		agree(t, "the fork, after the list was renewed", fork, of)
		spray(t, "the fork", fork, of, 7)
		agree(t, "the list, after the fork went on", l, m)
		second, ofSecond := fork.Fork(), of.fork()
		fork.Renew(7)
		of.renew([]int{7})
		agree(t, "the list, after the fork was renewed", l, m)
		spray(t, "the fork of the fork", second, ofSecond, 9)
		spray(t, "the fork, again", fork, of, 3)
		spray(t, "the list, again", l, m, 5)
	}
}

func TestListsGoTheirOwnWays(t *testing.T) {
	a, ofA := made(t, 7, 0, 1, 2)
	b, ofB := made(t, 7, 0, 1, 2)
	c, ofC := made(t, 8, 0, 1, 2)
	spray(t, "a", a, ofA, 5)
	agree(t, "b", b, ofB)
	b.Renew(5)
	ofB.renew([]int{5})
	spray(t, "c", c, ofC, 4)
	spray(t, "b", b, ofB, 2)
	agree(t, "a", a, ofA)
}

func TestListThatIsNotMade(t *testing.T) {
	for what, l := range notMade() {
		for range 3 {
			if n := l.Next(); n != -1 {
				t.Errorf("%s: Next %d", what, n)
			}
			if n := l.Peek(); n != -1 {
				t.Errorf("%s: Peek %d", what, n)
			}
			if left, paths := l.Left(), l.Paths(); len(left) != 0 || len(paths) != 0 {
				t.Errorf("%s: Left %v, Paths %v", what, left, paths)
			}
			if n, sprayed := l.Rounds(), l.Sprayed(); n != 0 || sprayed != [8]int{} {
				t.Errorf("%s: Rounds %d, Sprayed %v", what, n, sprayed)
			}
			if f := l.Fork(); f != nil {
				t.Errorf("%s: Fork %v", what, f)
			}
			if e := l.Renew(0, 1); e != api.ErrNil { // nor does this make it one
				t.Errorf("%s: Renew %d", what, e)
			}
		}
	}
}

// P6.4: once a round.

func TestEachPathOnceARound(t *testing.T) {
	for _, paths := range valid() {
		l, _ := made(t, 3, paths...)
		for range 20 {
			if round := next(l, len(paths)); !slices.Equal(slices.Sorted(slices.Values(round)), paths) {
				t.Fatalf("a round of %v: %v", paths, round)
			}
		}
		next(l, len(paths)/2)
		others := orders(paths)[2]
		if len(others) < api.MaxPaths {
			others = append(others, missing(others))
		} else {
			others = others[:5]
		}
		l.Renew(others...)
		if round := next(l, len(others)); !slices.Equal(slices.Sorted(slices.Values(round)), l.Paths()) {
			t.Fatalf("a round of %v, renewed from %v: %v", others, paths, round)
		}
	}
}

// missing is the least path that is not among these.
func missing(paths []int) int {
	for path := range api.MaxPaths {
		if !slices.Contains(paths, path) {
			return path
		}
	}
	return -1
}

func TestRoundsReachEveryOrder(t *testing.T) {
	seen := make(map[[3]int]int)
	l, _ := made(t, 7, 2, 4, 6)
	for range 600 {
		seen[[3]int(next(l, 3))]++
	}
	if len(seen) != 6 {
		t.Errorf("%d orders of 3 paths, not 6", len(seen))
	}
	for order, n := range seen {
		if n < 60 || n > 140 {
			t.Errorf("%v: %d times of 600", order, n)
		}
	}
}

// P6.5: evenness.

func TestCountsDifferByAtMostOne(t *testing.T) {
	for _, paths := range valid() {
		l, _ := made(t, 11, paths...)
		for i := range 100 {
			sprayed := l.Sprayed()
			least, most, all := sprayed[paths[0]], 0, 0
			for _, path := range paths {
				least, most = min(least, sprayed[path]), max(most, sprayed[path])
				all += sprayed[path]
			}
			if most-least > 1 || all != i {
				t.Fatalf("%v after %d: %v", paths, i, sprayed)
			}
			l.Next()
		}
	}
}

// pathsOf are paths that a byte tells: those whose bits it has.
func pathsOf(b byte) []int {
	var out []int
	for path := range api.MaxPaths {
		if b>>path&1 == 1 {
			out = append(out, path)
		}
	}
	return out
}

func FuzzListAgrees(f *testing.F) {
	f.Add(uint64(0), byte(255), []byte{0, 0, 1, 7, 0, 0, 2, 0, 1, 0, 3, 0, 1, 255})
	f.Add(uint64(math.MaxUint64), byte(1), []byte{0, 0, 1, 1, 0, 2, 0})
	f.Add(uint64(7), byte(0), []byte{})
	f.Fuzz(func(t *testing.T, seed uint64, first byte, ops []byte) {
		l, e := perm.New(seed, pathsOf(first)...)
		if first == 0 {
			if l != nil || e != api.ErrPerm {
				t.Errorf("no paths: %v, %d", l, e)
			}
			return
		}
		m := newModel(seed, pathsOf(first)...)
		for i, op := range ops {
			switch op % 4 {
			case 0:
				spray(t, "Next", l, m, 1)
			case 1:
				renewBoth(t, l, m, ops[(i+1)%len(ops)])
			case 2:
				l.Fork().Renew(0) // and what becomes of it is nothing to l
				l.Fork().Next()
			case 3:
				l.Next()
				m.next()
				l = l.Fork()
			}
			agree(t, "any calls", l, m)
		}
	})
}

// renewBoth renews a list and its model with the paths that a byte tells.
func renewBoth(t *testing.T, l *perm.List, m *model, b byte) {
	t.Helper()
	paths := pathsOf(b)
	e := l.Renew(paths...)
	if b == 0 {
		if e != api.ErrPerm {
			t.Errorf("Renew without paths: %d", e)
		}
		return
	}
	if e != api.OK {
		t.Errorf("Renew(%v): %d", paths, e)
	}
	m.renew(paths)
}
