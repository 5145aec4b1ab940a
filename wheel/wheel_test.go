package wheel_test

import (
	"errors"
	"iter"
	"math"
	"slices"
	"strconv"
	"testing"

	"nozzle/api"
	"nozzle/draws"
	"nozzle/wheel"
)

// span is how many ticks a timer may wait.
const span = 1 << 20

// notMade are wheels that New did not make.
func notMade() map[string]*wheel.Wheel[int] {
	_, _ = wheel.New[int](3) // a wheel elsewhere makes nothing of these
	refused, _ := wheel.New[int](0)
	return map[string]*wheel.Wheel[int]{"nil": nil, "zero": {}, "new": new(wheel.Wheel[int]), "refused": refused}
}

// notMosts are numbers with which there is no wheel.
func notMosts() []int {
	return []int{math.MinInt, math.MinInt + 1, -1 << 32, -1024, -2, -1, 0, 1025, 1026, 2048, 1 << 20, 1 << 32, 1<<32 + 1, math.MaxInt - 1, math.MaxInt}
}

// notSpans are numbers of ticks that no timer may wait.
func notSpans() []int {
	return []int{math.MinInt, math.MinInt + 1, -1 << 32, -span, -2, -1, 0, span + 1, span + 2, 2 * span, 1 << 31, 1 << 32, 1<<32 + 1, 1 << 40, math.MaxInt - 1, math.MaxInt}
}

// waiting is a timer of the model.
type waiting struct {
	key  int
	left int
	turn int // which Set it was
}

// model does slowly, as the document says it, what a wheel does: each timer counts its own ticks.
type model struct {
	most   int
	now    int
	turn   int
	timers []waiting // in no order
}

func (m *model) index(key int) int {
	for i, x := range m.timers {
		if x.key == key {
			return i
		}
	}
	return -1
}

func (m *model) set(key, ticks int) api.Errno {
	if ticks < 1 || ticks > span {
		return api.ErrRange
	}
	i := m.index(key)
	if i < 0 && len(m.timers) >= m.most {
		return api.ErrMany
	}
	m.turn++
	if i < 0 {
		m.timers = append(m.timers, waiting{})
		i = len(m.timers) - 1
	}
	m.timers[i] = waiting{key, ticks, m.turn}
	return api.OK
}

func (m *model) drop(key int) bool {
	i := m.index(key)
	if i < 0 {
		return false
	}
	m.timers[i] = m.timers[len(m.timers)-1]
	m.timers = m.timers[:len(m.timers)-1]
	return true
}

// first is the timer that all others follow in the order.
func (m *model) first() (waiting, bool) {
	var out waiting
	for i, x := range m.timers {
		if i == 0 || x.left < out.left || x.left == out.left && x.turn < out.turn {
			out = x
		}
	}
	return out, len(m.timers) > 0
}

// order is all timers in order.
func (m *model) order() []waiting {
	other := m.copied()
	var out []waiting
	for x, ok := other.first(); ok; x, ok = other.first() {
		out = append(out, x)
		other.drop(x.key)
	}
	return out
}

func (m *model) copied() *model {
	other := *m
	other.timers = slices.Clone(m.timers)
	return &other
}

// tick lets ticks go by; before the last of them nothing may be due.
func (m *model) tick(ticks int) []int {
	m.now += ticks
	for i := range m.timers {
		m.timers[i].left -= ticks
	}
	var due []int
	for x, ok := m.first(); ok && x.left == 0; x, ok = m.first() {
		due = append(due, x.key)
		m.drop(x.key)
	}
	return due
}

func (m *model) skip(n int) []int {
	var due []int
	for n = min(n, span); n > 0; {
		step := n
		if x, ok := m.first(); ok {
			step = min(n, x.left)
		}
		due = append(due, m.tick(step)...)
		n -= step
	}
	return due
}

// pair is a wheel, and the model of it: each call goes to both.
type pair struct {
	t *testing.T
	x *wheel.Wheel[int]
	m *model
}

func made(t *testing.T, most int) *pair {
	t.Helper()
	x, e := wheel.New[int](most)
	if x == nil || e != api.OK {
		t.Fatalf("New(%d): %v, %d", most, x, e)
	}
	return &pair{t, x, &model{most: most}}
}

// filled is a pair with these timers, of the keys 0, 1 and so on.
func filled(t *testing.T, most int, ticks ...int) *pair {
	t.Helper()
	p := made(t, most)
	for key, n := range ticks {
		if e := p.set(key, n); e != api.OK {
			t.Fatalf("Set(%d, %d): %d", key, n, e)
		}
	}
	return p
}

func (p *pair) set(key, ticks int) api.Errno {
	p.t.Helper()
	got, want := p.x.Set(key, ticks), p.m.set(key, ticks)
	if got != want {
		p.t.Errorf("Set(%d, %d): %d, not %d", key, ticks, got, want)
	}
	return got
}

func (p *pair) drop(key int) bool {
	p.t.Helper()
	got, want := p.x.Drop(key), p.m.drop(key)
	if got != want {
		p.t.Errorf("Drop(%d): %v, not %v", key, got, want)
	}
	return got
}

func (p *pair) tick() []int {
	p.t.Helper()
	got, want := p.x.Tick(), p.m.skip(1)
	if !slices.Equal(got, want) {
		p.t.Errorf("Tick to %d: %v, not %v", p.m.now, got, want)
	}
	return got
}

func (p *pair) skip(n int) []int {
	p.t.Helper()
	got, want := p.x.Skip(n), p.m.skip(n)
	if !slices.Equal(got, want) {
		p.t.Errorf("Skip(%d) to %d: %v, not %v", n, p.m.now, got, want)
	}
	return got
}

// agree asks everything that a wheel tells without changing it.
func (p *pair) agree(what string) {
	p.t.Helper()
	var keys, left []int
	for _, x := range p.m.order() {
		keys, left = append(keys, x.key), append(left, x.left)
	}
	next := 0
	if len(left) > 0 {
		next = left[0]
	}
	for range 2 { // asking changes nothing
		if p.x.Now() != p.m.now || p.x.Len() != len(keys) || p.x.Next() != next {
			p.t.Errorf("%s: now %d, len %d, next %d, not %d, %d, %d", what, p.x.Now(), p.x.Len(), p.x.Next(), p.m.now, len(keys), next)
		}
		if got := p.x.Keys(); !slices.Equal(got, keys) {
			p.t.Errorf("%s: keys %v, not %v", what, got, keys)
		}
		if k, n := listed(p.x.All()); !slices.Equal(k, keys) || !slices.Equal(n, left) {
			p.t.Errorf("%s: All yields %v, %v, not %v, %v", what, k, n, keys, left)
		}
		for i, key := range keys {
			if n, ok := p.x.Left(key); n != left[i] || !ok {
				p.t.Errorf("%s: Left(%d) = %d, %v, not %d", what, key, n, ok, left[i])
			}
		}
	}
	for _, key := range []int{-1, 0, 1, 2, 1 << 40, math.MaxInt, math.MinInt} {
		if n, ok := p.x.Left(key); p.m.index(key) < 0 && (n != 0 || ok) {
			p.t.Errorf("%s: Left(%d) = %d, %v", what, key, n, ok)
		}
	}
}

// listed is what an iterator yields.
func listed[K comparable](all iter.Seq2[K, int]) ([]K, []int) {
	var keys []K
	var left []int
	for key, n := range all {
		keys, left = append(keys, key), append(left, n)
	}
	return keys, left
}

// numbers are from, from + 1 and so on, below to.
func numbers(from, to int) []int {
	var out []int
	for n := from; n < to; n++ {
		out = append(out, n)
	}
	return out
}

// P16.1: New.

func TestNewHasNoTimers(t *testing.T) {
	for _, most := range []int{1, 2, 3, 63, 64, 65, 1000, 1023, 1024} {
		p := made(t, most)
		p.agree("new")
		if p.x.Now() != 0 || p.x.Len() != 0 || p.x.Next() != 0 || len(p.x.Keys()) != 0 || p.x.Drop(0) {
			t.Errorf("New(%d): now %d, len %d, next %d, keys %v", most, p.x.Now(), p.x.Len(), p.x.Next(), p.x.Keys())
		}
		p.agree("new, after a drop")
		p.tick()
		p.agree("new, after a tick")
	}
}

func TestNewRefusesOtherNumbers(t *testing.T) {
	for _, most := range notMosts() {
		if w, e := wheel.New[int](most); w != nil || e != api.ErrWheel {
			t.Errorf("New(%d): %v, %d", most, w, e)
		}
		if w, e := wheel.New[any](most); w != nil || e != api.ErrWheel {
			t.Errorf("New(%d) of anything: %v, %d", most, w, e)
		}
	}
	if api.ErrWheel != 160 {
		t.Error(api.ErrWheel)
	}
}

func TestNewIsOneOfItsOwn(t *testing.T) {
	a, b := filled(t, 3, 4, 2), filled(t, 3, 9)
	b.skip(3)
	a.agree("another was used")
	a.drop(0)
	a.skip(9)
	b.agree("the other was used")
	made(t, 3).agree("made later")
}

// P16.1: Set.

func TestExampleOfTheChapter(t *testing.T) {
	w, _ := wheel.New[string](5)
	w.Set("a", 3)
	w.Set("b", 1)
	w.Set("c", 3)
	if got := w.Tick(); !slices.Equal(got, []string{"b"}) {
		t.Error(got)
	}
	if n, ok := w.Left("a"); n != 2 || !ok {
		t.Error(n, ok)
	}
	if got := w.Tick(); len(got) != 0 {
		t.Error(got)
	}
	if got := w.Tick(); !slices.Equal(got, []string{"a", "c"}) {
		t.Error(got)
	}
	if got := w.Tick(); len(got) != 0 || w.Len() != 0 {
		t.Error(got, w.Len())
	}
}

func TestSetIsDueAfterTheTicks(t *testing.T) {
	for _, at := range []int{0, 1, 7, span} {
		for _, ticks := range []int{1, 2, 3, 100, 1000, span - 1, span} {
			p := made(t, 1)
			p.skip(at)
			p.set(5, ticks)
			if n, ok := p.x.Left(5); n != ticks || !ok || p.x.Next() != ticks {
				t.Errorf("Set(5, %d) at %d: left %d, %v, next %d", ticks, at, n, ok, p.x.Next())
			}
			p.agree("set")
			if got := p.skip(ticks - 1); len(got) != 0 {
				t.Errorf("Set(5, %d) at %d: %v a tick before", ticks, at, got)
			}
			p.agree("a tick before")
			if got := p.tick(); !slices.Equal(got, []int{5}) || p.x.Now() != at+ticks {
				t.Errorf("Set(5, %d) at %d: %v at %d", ticks, at, got, p.x.Now())
			}
			p.agree("due")
		}
	}
}

func TestSetRefusesOtherTicks(t *testing.T) {
	for _, ticks := range notSpans() {
		p := filled(t, 3, 5, 2)
		p.skip(1)
		for _, key := range []int{0, 1, 2} { // one that is there is not replaced
			if e := p.set(key, ticks); e != api.ErrRange {
				t.Errorf("Set(%d, %d): %d", key, ticks, e)
			}
			p.agree("refused")
		}
	}
}

func TestSetRefusesTooMany(t *testing.T) {
	for _, most := range []int{1, 2, 3, 64, 65, 1023, 1024} {
		p := made(t, most)
		for key := range most {
			if e := p.set(key, 1+key%7); e != api.OK {
				t.Fatalf("most %d: Set(%d): %d", most, key, e)
			}
		}
		if e := p.set(most, 1); e != api.ErrMany {
			t.Errorf("most %d: one more: %d", most, e)
		}
		p.agree("one more")
		if e := p.set(most-1, 9); e != api.OK {
			t.Errorf("most %d: one that is there: %d", most, e)
		}
		p.agree("one that is there")
		if e := p.set(-1, 1); e != api.ErrMany {
			t.Errorf("most %d: one more, once one was set again: %d", most, e)
		}
		p.drop(most / 2)
		if e := p.set(-1, 1); e != api.OK {
			t.Errorf("most %d: one for another: %d", most, e)
		}
		p.agree("one for another")
		p.skip(9)
		if e := p.set(most, 1); e != api.OK {
			t.Errorf("most %d: after all were due: %d", most, e)
		}
		p.agree("after all were due")
	}
}

func TestOrderOfErrorsOfSet(t *testing.T) {
	p := filled(t, 2, 4, 5)
	for _, ticks := range notSpans() {
		if e := p.x.Set(9, ticks); e != api.ErrRange {
			t.Errorf("full, and Set(9, %d): %d", ticks, e)
		}
	}
	if e := p.x.Set(9, 1); e != api.ErrMany {
		t.Errorf("full: %d", e)
	}
	for what, w := range notMade() {
		for _, ticks := range append(notSpans(), 1, span) {
			if e := w.Set(9, ticks); e != api.ErrNil {
				t.Errorf("%s: Set(9, %d): %d", what, ticks, e)
			}
		}
	}
	p.agree("refused")
}

func TestSetAgainReplaces(t *testing.T) {
	for _, ticks := range []int{1, 2, 3, 4, 5, 6, 7, 100, span} {
		for key := range 4 {
			p := filled(t, 4, 5, 3, 5, 3)
			p.skip(1)
			p.set(key, ticks)
			if n, ok := p.x.Left(key); n != ticks || !ok || p.x.Len() != 4 {
				t.Errorf("Set(%d, %d) again: left %d, %v, len %d", key, ticks, n, ok, p.x.Len())
			}
			p.agree("set again")
			p.skip(10)
			p.agree("set again, and ticks")
		}
	}
}

// TestSetAgainIsNewlySet: for the same tick as before, too.
func TestSetAgainIsNewlySet(t *testing.T) {
	p := filled(t, 4, 5, 5, 5)
	p.set(0, 5)
	if got := p.x.Keys(); !slices.Equal(got, []int{1, 2, 0}) {
		t.Error(got)
	}
	p.skip(2)
	p.set(1, 3)
	p.set(3, 3)
	p.set(2, 3)
	if got := p.x.Keys(); !slices.Equal(got, []int{0, 1, 3, 2}) {
		t.Error(got)
	}
	if got := p.skip(3); !slices.Equal(got, []int{0, 1, 3, 2}) {
		t.Error(got)
	}
}

// P16.1: Drop.

func TestDropRemovesOne(t *testing.T) {
	for key := range 5 {
		p := filled(t, 5, 4, 2, 4, 1, 4)
		if !p.drop(key) || p.x.Len() != 4 {
			t.Errorf("Drop(%d): %d left", key, p.x.Len())
		}
		if n, ok := p.x.Left(key); n != 0 || ok {
			t.Errorf("Drop(%d): left %d, %v", key, n, ok)
		}
		p.agree("dropped")
		if p.drop(key) {
			t.Errorf("Drop(%d) again", key)
		}
		p.agree("dropped again")
		if got := p.skip(9); slices.Contains(got, key) || len(got) != 4 {
			t.Errorf("Drop(%d), and it is due: %v", key, got)
		}
	}
}

func TestDropOfNoTimer(t *testing.T) {
	p := filled(t, 5, 4, 2)
	for _, key := range []int{2, 3, -1, math.MaxInt, math.MinInt} {
		if p.drop(key) {
			t.Errorf("Drop(%d)", key)
		}
		p.agree("none dropped")
	}
	p.skip(2)
	if p.drop(1) {
		t.Error("one that was due is dropped")
	}
	p.agree("one was due")
}

func TestSetAfterDrop(t *testing.T) {
	p := filled(t, 3, 4, 4, 4)
	p.drop(0)
	p.set(0, 4)
	if got := p.x.Keys(); !slices.Equal(got, []int{1, 2, 0}) {
		t.Error(got)
	}
	p.agree("dropped and set")
}

// P16.1: Left.

func TestLeftTickByTick(t *testing.T) {
	p := filled(t, 9, 3, 1, 7, 3)
	for tick := 1; tick < 10; tick++ {
		p.tick()
		for key, ticks := range []int{3, 1, 7, 3} {
			n, ok := p.x.Left(key)
			if ok != (ticks > tick) || n != max(ticks-tick, 0) {
				t.Errorf("Left(%d) at %d: %d, %v", key, tick, n, ok)
			}
		}
		p.agree("tick")
	}
}

// P16.1: keys of any type.

// anyKeys holds all calls with the keys of a type; they are not equal.
func anyKeys[K comparable](t *testing.T, a, b, c K) {
	t.Helper()
	w, e := wheel.New[K](2)
	if e != api.OK {
		t.Fatal(e)
	}
	if e := w.Set(a, 2); e != api.OK {
		t.Errorf("%v: %d", a, e)
	}
	if e := w.Set(b, 1); e != api.OK {
		t.Errorf("%v: %d", b, e)
	}
	if e := w.Set(c, 1); e != api.ErrMany {
		t.Errorf("%v: %d", c, e)
	}
	if e := w.Set(a, 1); e != api.OK || w.Len() != 2 {
		t.Errorf("%v again: %d, len %d", a, e, w.Len())
	}
	if got := w.Keys(); !slices.Equal(got, []K{b, a}) {
		t.Errorf("keys %v", got)
	}
	if n, ok := w.Left(c); n != 0 || ok {
		t.Errorf("Left(%v): %d, %v", c, n, ok)
	}
	if w.Drop(c) || !w.Drop(b) || w.Drop(b) {
		t.Errorf("dropped %v, but not %v", c, b)
	}
	if n, ok := w.Left(a); n != 1 || !ok || w.Next() != 1 {
		t.Errorf("Left(%v): %d, %v", a, n, ok)
	}
	if got := w.Tick(); !slices.Equal(got, []K{a}) {
		t.Errorf("Tick: %v", got)
	}
}

func TestKeysOfAnyType(t *testing.T) {
	type pairKey struct {
		a int
		b string
	}
	x, y, z := 1, 1, 1
	anyKeys(t, 1, 2, 3)
	anyKeys(t, "", "a", "aa")
	anyKeys(t, byte(0), 1, 255)
	anyKeys(t, pairKey{1, "x"}, pairKey{1, "y"}, pairKey{2, "x"})
	anyKeys(t, [2]string{"a", "b"}, [2]string{"ab", ""}, [2]string{"", "ab"})
	anyKeys(t, &x, &y, &z)
	anyKeys(t, 0.0, 1.5, math.Inf(1))
	anyKeys[any](t, nil, 1, "1")
	anyKeys[any](t, 1, int64(1), uint(1))
	anyKeys(t, api.OK, api.ErrArg, api.ErrLong)
	anyKeys[error](t, nil, errors.New("a"), errors.New("a"))
	anyKeys(t, api.Data, api.Ack, api.Pull)
	anyKeys(t, make(chan int), make(chan int), nil)
}

func TestKeyWithOneValue(t *testing.T) {
	w, _ := wheel.New[struct{}](3)
	w.Set(struct{}{}, 4)
	w.Set(struct{}{}, 2)
	if w.Len() != 1 || w.Next() != 2 {
		t.Error(w.Len(), w.Next())
	}
	if got := w.Skip(2); len(got) != 1 {
		t.Error(got)
	}
}

func TestZerosAreOneKey(t *testing.T) {
	w, _ := wheel.New[float64](3)
	w.Set(0, 4)
	w.Set(math.Copysign(0, -1), 2)
	if w.Len() != 1 || w.Next() != 2 || !w.Drop(0) {
		t.Error(w.Len(), w.Next())
	}
}

// TestKeyThatIsNotEqualToItself: it never has a timer, but what is set is due.
func TestKeyThatIsNotEqualToItself(t *testing.T) {
	w, _ := wheel.New[float64](3)
	nan := math.NaN()
	for _, ticks := range []int{3, 1, 2} {
		if e := w.Set(nan, ticks); e != api.OK {
			t.Error(e)
		}
	}
	if e := w.Set(nan, 1); e != api.ErrMany {
		t.Error(e)
	}
	if n, ok := w.Left(nan); n != 0 || ok || w.Drop(nan) || w.Len() != 3 || w.Next() != 1 {
		t.Error(n, ok, w.Len(), w.Next())
	}
	for range 3 {
		if got := w.Tick(); len(got) != 1 || !math.IsNaN(got[0]) {
			t.Error(got)
		}
	}
	if w.Len() != 0 {
		t.Error(w.Len())
	}
}

// TestKeyThatCannotBeCompared: no call panics, and all others are found among such keys.
func TestKeyThatCannotBeCompared(t *testing.T) {
	for what, key := range map[string]any{
		"slice":           []int{1},
		"map":             map[string]int{"a": 1},
		"function":        func() {},
		"struct":          struct{ l []int }{},
		"array":           [1]any{[]int{}},
		"in an interface": struct{ x, y any }{1, []string{}},
	} {
		w, _ := wheel.New[any](4)
		for _, c := range []struct {
			key   any
			ticks int
			want  api.Errno
		}{{key, 2, api.OK}, {"a", 3, api.OK}, {key, 1, api.OK}, {7, 3, api.OK}, {key, 1, api.ErrMany}, {"a", 4, api.OK}, {key, 0, api.ErrRange}} {
			if e := w.Set(c.key, c.ticks); e != c.want {
				t.Errorf("%s: Set %v %d: %d", what, c.key, c.ticks, e)
			}
		}
		if n, ok := w.Left(key); n != 0 || ok || w.Drop(key) || w.Len() != 4 {
			t.Errorf("%s: left %d, %v, len %d", what, n, ok, w.Len())
		}
		if n, ok := w.Left("a"); n != 4 || !ok {
			t.Errorf("%s: left of another: %d, %v", what, n, ok)
		}
		if len(w.Keys()) != 4 || len(w.Tick()) != 1 || len(w.Tick()) != 1 {
			t.Errorf("%s: %v", what, w.Keys())
		}
		if got := w.Skip(2); !slices.Equal(got, []any{7, "a"}) {
			t.Errorf("%s: %v", what, got)
		}
	}
}

// P16.2: Tick.

func TestTickByTick(t *testing.T) {
	for seed := range uint64(20) {
		source := draws.New(seed)
		p := made(t, 100)
		for key := range 60 {
			p.set(key, 1+source.Below(30))
		}
		for tick := range 32 {
			got := p.tick()
			if p.x.Now() != tick+1 {
				t.Errorf("now %d after %d ticks", p.x.Now(), tick+1)
			}
			for _, key := range got {
				if _, ok := p.x.Left(key); ok {
					t.Errorf("%d was due, and has a timer", key)
				}
			}
			p.agree("tick")
		}
	}
}

func TestTickOfManyAtOnce(t *testing.T) {
	p := made(t, 1024)
	for key := range 1024 {
		p.set(key, 2)
	}
	p.tick()
	if got := p.tick(); !slices.Equal(got, numbers(0, 1024)) {
		t.Error(got)
	}
	p.agree("all were due")
}

// TestOrderIsByTickThenBySet: a timer that was set later for the same tick comes later, wherever the ticks were.
func TestOrderIsByTickThenBySet(t *testing.T) {
	p := made(t, 20)
	for key := range 5 {
		p.set(9-key, 6-key)     // all are due at tick 6
		p.set(key+10, 12-2*key) // the later it was set, the sooner it is due
		p.agree("set")
		if key < 4 {
			p.tick()
		}
	}
	if got := p.skip(2); !slices.Equal(got, []int{9, 8, 7, 6, 5}) {
		t.Error(got)
	}
	if got := p.skip(100); !slices.Equal(got, []int{14, 13, 12, 11, 10}) {
		t.Error(got)
	}
}

// P16.2: Skip.

func TestSkipOfNone(t *testing.T) {
	for _, n := range []int{0, -1, -2, -span, -1 << 32, math.MinInt, math.MinInt + 1} {
		p := filled(t, 3, 1, 2, 1)
		p.skip(1)
		p.set(0, 1)
		if got := p.x.Skip(n); len(got) != 0 || p.x.Now() != 1 {
			t.Errorf("Skip(%d): %v, now %d", n, got, p.x.Now())
		}
		p.agree("skipped none")
	}
}

func TestSkipAtTheEdges(t *testing.T) {
	for _, n := range []int{1, 2, span - 2, span - 1, span, span + 1, span + 2, 2 * span, 1 << 31, 1 << 32, 1<<32 + 1, 1 << 40, math.MaxInt - 1, math.MaxInt} {
		p := filled(t, 6, span, 1, span-1, 2, 1)
		p.skip(n)
		if p.x.Now() != min(n, span) {
			t.Errorf("Skip(%d): now %d", n, p.x.Now())
		}
		p.agree("skipped")
		p.set(7, span)
		p.agree("skipped, and set")
		p.skip(n)
		p.agree("skipped twice")
		if p.x.Now() != 2*min(n, span) {
			t.Errorf("Skip(%d) twice: now %d", n, p.x.Now())
		}
	}
}

func TestSkipIsTicks(t *testing.T) {
	for seed := range uint64(20) {
		source := draws.New(seed)
		a, b := made(t, 50), made(t, 50)
		for range 30 {
			for range source.Below(9) {
				key, ticks := source.Below(60), 1+source.Below(25)
				a.set(key, ticks)
				b.set(key, ticks)
			}
			n := source.Below(12)
			var one []int
			for range n {
				one = append(one, a.x.Tick()...)
			}
			a.m.skip(n)
			if got := b.skip(n); !slices.Equal(got, one) {
				t.Errorf("Skip(%d): %v, not %v", n, got, one)
			}
			a.agree("ticks")
			b.agree("skip")
		}
	}
}

func TestLongWaysOff(t *testing.T) {
	p := made(t, 3)
	for i := range 5000 {
		if i%1000 == 0 {
			p.set(i, span)
			p.set(i+1, 1)
		}
		p.skip(math.MaxInt)
	}
	p.set(1, span)
	p.agree("far on")
	if p.x.Now() != 5000*span {
		t.Error(p.x.Now())
	}
}

// P16.3: Now, Len, Keys, Next.

// TestEachCallChangesItsOwn: what a wheel tells changes by the calls that the document names, and by no others.
func TestEachCallChangesItsOwn(t *testing.T) {
	for _, c := range []struct {
		what           string
		call           func(w *wheel.Wheel[int])
		now, len, next int
		keys           []int
	}{
		{"nothing", func(w *wheel.Wheel[int]) {}, 2, 3, 1, []int{1, 0, 2}},
		{"set", func(w *wheel.Wheel[int]) { w.Set(3, 2) }, 2, 4, 1, []int{1, 3, 0, 2}},
		{"set first", func(w *wheel.Wheel[int]) { w.Set(3, 1) }, 2, 4, 1, []int{1, 3, 0, 2}},
		{"set again", func(w *wheel.Wheel[int]) { w.Set(1, 9) }, 2, 3, 3, []int{0, 2, 1}},
		{"refused", func(w *wheel.Wheel[int]) { w.Set(1, 0) }, 2, 3, 1, []int{1, 0, 2}},
		{"drop", func(w *wheel.Wheel[int]) { w.Drop(1) }, 2, 2, 3, []int{0, 2}},
		{"drop another", func(w *wheel.Wheel[int]) { w.Drop(5) }, 2, 3, 1, []int{1, 0, 2}},
		{"left", func(w *wheel.Wheel[int]) { w.Left(1) }, 2, 3, 1, []int{1, 0, 2}},
		{"tick", func(w *wheel.Wheel[int]) { w.Tick() }, 3, 2, 2, []int{0, 2}},
		{"skip", func(w *wheel.Wheel[int]) { w.Skip(2) }, 4, 2, 1, []int{0, 2}},
		{"skip all", func(w *wheel.Wheel[int]) { w.Skip(5) }, 7, 0, 0, nil},
		{"skip none", func(w *wheel.Wheel[int]) { w.Skip(-1) }, 2, 3, 1, []int{1, 0, 2}},
		{"all", func(w *wheel.Wheel[int]) { listed(w.All()) }, 2, 3, 1, []int{1, 0, 2}},
		{"keys", func(w *wheel.Wheel[int]) { clear(w.Keys()) }, 2, 3, 1, []int{1, 0, 2}},
	} {
		w := filled(t, 4, 5, 3, 6).x
		w.Skip(2)
		c.call(w)
		if w.Now() != c.now || w.Len() != c.len || w.Next() != c.next || !slices.Equal(w.Keys(), c.keys) {
			t.Errorf("%s: now %d, len %d, next %d, keys %v", c.what, w.Now(), w.Len(), w.Next(), w.Keys())
		}
	}
}

// P16.3: All.

func TestAllStopsWhereItIsLeft(t *testing.T) {
	p := filled(t, 9, 5, 1, 3, 5, 2)
	p.tick()
	all := p.x.All()
	want := []int{4, 2, 0, 3}
	for n := 1; n <= 4; n++ {
		var got []int
		for key := range all {
			got = append(got, key)
			if len(got) == n {
				break
			}
		}
		if !slices.Equal(got, want[:n]) {
			t.Errorf("the first %d: %v", n, got)
		}
	}
	p.agree("left")
}

// TestAllAsItWasWhenItBegan: who ranges over it may change the wheel meanwhile.
func TestAllAsItWasWhenItBegan(t *testing.T) {
	for what, change := range map[string]func(w *wheel.Wheel[int]){
		"tick": func(w *wheel.Wheel[int]) { w.Tick() },
		"skip": func(w *wheel.Wheel[int]) { w.Skip(2) },
		"all":  func(w *wheel.Wheel[int]) { w.Skip(span) },
		"drop": func(w *wheel.Wheel[int]) { w.Drop(0); w.Drop(3) },
		"set":  func(w *wheel.Wheel[int]) { w.Set(9, 1); w.Set(8, 4); w.Set(8, 1) },
		"set again": func(w *wheel.Wheel[int]) {
			for key := range 5 {
				w.Set(key, 1+w.Now())
			}
		},
	} {
		p := filled(t, 9, 5, 1, 3, 5, 2)
		var keys, left []int
		for key, n := range p.x.All() {
			keys, left = append(keys, key), append(left, n)
			change(p.x)
		}
		if !slices.Equal(keys, []int{1, 4, 2, 0, 3}) || !slices.Equal(left, []int{1, 2, 3, 5, 5}) {
			t.Errorf("%s meanwhile: %v, %v", what, keys, left)
		}
	}
}

// TestAllBeginsAnewEachTime: with what there is then, not when All was called.
func TestAllBeginsAnewEachTime(t *testing.T) {
	p := made(t, 9)
	all := p.x.All()
	for n := range 30 {
		p.set(n%9, 1+n*7%11)
		if n%4 == 0 {
			p.tick()
		}
		keys, left := listed(all)
		k, l := listed(p.x.All())
		if !slices.Equal(keys, k) || !slices.Equal(left, l) || !slices.Equal(keys, p.x.Keys()) {
			t.Errorf("%v, %v, not %v, %v", keys, left, k, l)
		}
		p.agree("ranged over")
	}
}

func TestAllWithinEachOther(t *testing.T) {
	p := filled(t, 3, 2, 1)
	all := p.x.All()
	var got []int
	for a, n := range all {
		p.x.Tick()
		for b, m := range all {
			got = append(got, 1000*a+100*n+10*b+m)
		}
	}
	if !slices.Equal(got, []int{1000 + 100 + 1}) {
		t.Error(got)
	}
}

// P16.4: punctuality.

// TestEachTimerIsReturnedOnce: at its tick, among any calls.
func TestEachTimerIsReturnedOnce(t *testing.T) {
	for seed := range uint64(30) {
		source := draws.New(seed)
		w, _ := wheel.New[int](64)
		due := map[int]int{} // by key
		for range 600 {
			key := source.Below(80)
			switch source.Below(3) {
			case 0:
				ticks := 1 + source.Below(20)
				if w.Set(key, ticks) == api.OK {
					due[key] = w.Now() + ticks
				}
			case 1:
				_, ok := due[key]
				if w.Drop(key) != ok {
					t.Errorf("Drop(%d): not %v", key, ok)
				}
				delete(due, key)
			default:
				got := w.Tick()
				for _, key := range got {
					if due[key] != w.Now() {
						t.Errorf("%d is due at %d, not %d", key, due[key], w.Now())
					}
					delete(due, key)
				}
			}
			for key, tick := range due {
				if tick <= w.Now() {
					t.Errorf("%d was due at %d, and it is %d", key, tick, w.Now())
				}
			}
			if len(due) != w.Len() {
				t.Errorf("len %d, not %d", w.Len(), len(due))
			}
		}
	}
}

func TestLongWaitsArePunctual(t *testing.T) {
	p := made(t, 1024)
	for key := range 1024 {
		p.set(key, span-key)
	}
	p.skip(span - 1024)
	for key := 1023; key >= 0; key-- {
		if got := p.tick(); !slices.Equal(got, []int{key}) {
			t.Errorf("at %d: %v, not %d", p.x.Now(), got, key)
		}
	}
}

// P16.5: skipping.

func TestSkipsOfASum(t *testing.T) {
	for _, c := range [][2]int{{0, 0}, {0, 1}, {1, 0}, {1, 1}, {2, 3}, {3, 2}, {7, 100}, {span, 0}, {0, span}, {span - 1, 1}, {1, span - 1}, {span / 2, span / 2}} {
		ticks := []int{1, 2, 3, 4, 5, 5, 4, 3, 2, 1, 107, 108, span / 2, span - 1, span, span}
		a, b := filled(t, 16, ticks...), filled(t, 16, ticks...)
		two := slices.Concat(a.skip(c[0]), a.skip(c[1]))
		if one := b.skip(c[0] + c[1]); !slices.Equal(one, two) {
			t.Errorf("Skip of %v: %v, of the sum: %v", c, two, one)
		}
		if a.x.Now() != b.x.Now() || !slices.Equal(a.x.Keys(), b.x.Keys()) {
			t.Errorf("Skip of %v: now %d, keys %v, of the sum: %d, %v", c, a.x.Now(), a.x.Keys(), b.x.Now(), b.x.Keys())
		}
		a.agree("two skips")
		b.agree("one skip")
	}
}

// shared memory.

func TestResultsAreNewMemory(t *testing.T) {
	p := filled(t, 20, 1, 1, 1, 2, 2, 3, 4, 5, 6, 7)
	spoil := func(l []int) {
		_ = append(l, 77, 78, 79)
		for i := range l {
			l[i] = -5
		}
	}
	keys := p.x.Keys()
	spoil(p.x.Keys())
	if !slices.Equal(keys, numbers(0, 10)) {
		t.Error("two answers of Keys share memory:", keys)
	}
	p.agree("keys were spoilt")
	due := p.tick()
	p.agree("tick")
	spoil(p.skip(2))
	p.agree("what was due was spoilt")
	if !slices.Equal(due, []int{0, 1, 2}) || !slices.Equal(keys, numbers(0, 10)) {
		t.Error("an answer changed:", due, keys)
	}
	spoil(due)
	p.set(11, 1)
	p.set(12, 2)
	p.agree("set")
	p.skip(5)
	p.agree("skip")
}

// not made.

func TestNotMade(t *testing.T) {
	for what, w := range notMade() {
		for range 2 { // nothing makes them
			if e := w.Set(1, 1); e != api.ErrNil {
				t.Errorf("%s: Set: %d", what, e)
			}
			if n, ok := w.Left(1); n != 0 || ok || w.Drop(1) {
				t.Errorf("%s: left %d, %v", what, n, ok)
			}
			if l := w.Tick(); len(l) != 0 {
				t.Errorf("%s: Tick: %v", what, l)
			}
			for _, n := range []int{math.MinInt, -1, 0, 1, span, math.MaxInt} {
				if l := w.Skip(n); len(l) != 0 {
					t.Errorf("%s: Skip(%d): %v", what, n, l)
				}
			}
			if w.Now() != 0 || w.Len() != 0 || len(w.Keys()) != 0 || w.Next() != 0 {
				t.Errorf("%s: now %d, len %d, keys %v, next %d", what, w.Now(), w.Len(), w.Keys(), w.Next())
			}
			all := w.All()
			if all == nil {
				t.Fatalf("%s: All is nil", what)
			}
			for key, n := range all {
				t.Errorf("%s: All yields %d, %d", what, key, n)
			}
		}
	}
}

func TestNotMadeOfAnyKeys(t *testing.T) {
	var none *wheel.Wheel[any]
	for _, w := range []*wheel.Wheel[any]{none, {}} {
		key := any([]int{1})
		if e := w.Set(key, 1); e != api.ErrNil || w.Drop(key) || len(w.Tick()) != 0 || len(w.Keys()) != 0 {
			t.Error(e)
		}
	}
}

// TestACopiedValueIsOneOfItsOwn: it need not be, but it has to answer.
func TestACopiedValueIsOneOfItsOwn(t *testing.T) {
	p := filled(t, 6, 4, 2, 3, 2)
	p.tick()
	x := *p.x
	other := &pair{t, &x, p.m.copied()}
	other.set(9, 1)
	other.set(2, 1)
	p.agree("a copy changed")
	other.agree("the copy changed")
	p.set(7, 1)
	p.drop(0)
	p.skip(2)
	other.agree("what was copied changed")
	other.skip(9)
	other.agree("the copy went on")
	p.agree("the copy went on")
}

// any calls.

// call does one of all calls to a pair.
func (p *pair) call(kind, key, n int) {
	p.t.Helper()
	switch kind % 8 {
	case 0, 1, 2:
		p.set(key, n)
	case 3:
		p.drop(key)
	case 4:
		p.tick()
	case 5:
		p.skip(n)
	case 6:
		for range p.x.All() { // whatever is done meanwhile
			p.tick()
			p.set(key, n)
			break
		}
	default:
		p.skip(p.m.now % 7)
	}
}

func TestAnyCalls(t *testing.T) {
	for seed := range uint64(60) {
		source := draws.New(seed)
		p := made(t, 1+source.Below(12))
		for range 200 {
			p.call(source.Below(8), source.Below(16), source.Below(15)-1)
			p.agree("any calls")
		}
	}
}

func TestAnyCallsOfFullWheels(t *testing.T) {
	source := draws.New(7)
	p := made(t, 1024)
	for range 8 {
		for range 900 {
			p.set(source.Below(1100), 1+source.Below(300))
		}
		for range 100 {
			p.drop(source.Below(1100))
		}
		p.skip(source.Below(100))
		p.agree("many")
	}
}

// TestTextsAsKeys: the order is that of ticks, not of keys.
func TestTextsAsKeys(t *testing.T) {
	w, _ := wheel.New[string](100)
	var want []string
	for i := range 100 {
		key := strconv.Itoa(i * 37 % 100)
		want = append(want, key)
		w.Set(key, 1+i/10)
	}
	if got := w.Keys(); !slices.Equal(got, want) {
		t.Error(got)
	}
	if got := w.Skip(10); !slices.Equal(got, want) {
		t.Error(got)
	}
}

func FuzzWheelAgrees(f *testing.F) {
	f.Add(3, []byte{0, 1, 3, 0, 2, 1, 0, 3, 3, 4, 0, 0, 4, 0, 0, 4, 0, 0})
	f.Add(2, []byte{0, 1, 5, 0, 2, 5, 0, 3, 5, 0, 1, 5, 3, 2, 0, 5, 0, 250, 7, 0, 0})
	f.Add(1024, []byte{0, 1, 255, 6, 2, 5, 6, 3, 9, 5, 0, 255, 0, 4, 200, 5, 0, 201})
	f.Add(0, []byte{0, 0, 0})
	f.Fuzz(func(t *testing.T, most int, calls []byte) {
		if most < 1 || most > 1024 {
			if w, e := wheel.New[int](most); w != nil || e != api.ErrWheel {
				t.Fatalf("New(%d): %v, %d", most, w, e)
			}
			return
		}
		p := made(t, most)
		for ; len(calls) > 2; calls = calls[3:] {
			n := int(calls[2])
			if n > 200 { // about the greatest number
				n = span + n - 230
			}
			p.call(int(calls[0]), int(calls[1]), n)
			p.agree("any calls")
		}
	})
}
