package backoff_test

import (
	"iter"
	"math"
	"slices"
	"testing"

	"nozzle/api"
	"nozzle/backoff"
	"nozzle/draws"
)

// notMade are Timers that neither New nor Fork made.
func notMade() map[string]*backoff.Timer {
	other, _ := backoff.New(2, 9) // a Timer elsewhere makes nothing of these
	other.Run(true)
	other.Tick()
	var zero backoff.Timer
	var none *backoff.Timer
	refused, _ := backoff.New(3, 2)
	return map[string]*backoff.Timer{"nil": nil, "zero": {}, "new": new(backoff.Timer), "refused": refused, "its fork": zero.Fork(), "fork of nil": none.Fork()}
}

// outside are numbers that are neither a base nor a most.
func outside() []int {
	return []int{math.MinInt, math.MinInt + 1, -1 << 60, -1 << 32, -1 << 20, -2, -1, 0, 1<<20 + 1, 1<<20 + 2, 1 << 21, 1 << 31, 1 << 32, 1<<32 + 1, 1 << 60, 1 << 62, math.MaxInt - 1, math.MaxInt}
}

// limit is one pair of what New is given.
type limit struct{ base, most int }

// allowed are limits at the edges, and some between.
func allowed() []limit {
	return []limit{
		{1, 1}, {1, 2}, {1, 3}, {2, 2}, {2, 5}, {3, 10}, {4, 16}, {7, 8}, {7, 13}, {7, 14}, {7, 15}, {100, 1000},
		{1, 1<<20 - 1}, {1, 1 << 20}, {3, 1 << 20}, {1 << 19, 1<<20 - 1}, {1 << 19, 1 << 20}, {1<<19 + 1, 1 << 20},
		{1<<20 - 1, 1<<20 - 1}, {1<<20 - 1, 1 << 20}, {1 << 20, 1 << 20},
	}
}

// model does slowly, as the document says it, what a Timer does: it counts what happened, and works out the rest.
type model struct {
	limit
	fired   int // how often since the wait was the base
	running bool
	gone    int // ticks since the number of those that are left was the wait
}

// wait is the base, doubled as often as it fired, but at most the cap.
func (m *model) wait() int {
	wait := m.base
	for range m.fired {
		if wait += wait; wait > m.most {
			wait = m.most
		}
	}
	return wait
}

func (m *model) left() int {
	if !m.running {
		return 0
	}
	return m.wait() - m.gone
}

func (m *model) run(on bool) {
	if on && m.running {
		return
	}
	m.running, m.gone = on, 0
}

func (m *model) tick() bool {
	if !m.running {
		return false
	}
	m.gone++
	if m.left() > 0 {
		return false
	}
	m.fired, m.gone = m.fired+1, 0
	return true
}

// pair is a Timer, and the model of it: each call goes to both.
type pair struct {
	t *testing.T
	x *backoff.Timer
	m *model
}

func made(t *testing.T, l limit) *pair {
	t.Helper()
	x, e := backoff.New(l.base, l.most)
	if x == nil || e != api.OK {
		t.Fatalf("New(%d, %d): %v, %d", l.base, l.most, x, e)
	}
	return &pair{t, x, &model{limit: l}}
}

// running is a pair that runs, and has fired so many times.
func running(t *testing.T, l limit, fires int) *pair {
	t.Helper()
	p := made(t, l)
	p.run(true)
	for range fires {
		p.skip(p.m.left())
	}
	if p.m.fired != fires {
		t.Fatal("the model fired", p.m.fired)
	}
	return p
}

func (p *pair) run(on bool) {
	p.x.Run(on)
	p.m.run(on)
}

func (p *pair) tick() bool {
	p.t.Helper()
	got, want := p.x.Tick(), p.m.tick()
	if got != want {
		p.t.Errorf("Tick with %v and %d left: %v, not %v", p.m.limit, p.m.left(), got, want)
	}
	return got
}

// skip lets n ticks go by.
func (p *pair) skip(n int) {
	p.t.Helper()
	for range n {
		p.tick()
	}
}

func (p *pair) again() {
	p.x.Again()
	p.m.gone = 0
}

func (p *pair) reset() {
	p.x.Reset()
	p.m.fired, p.m.gone = 0, 0
}

func (p *pair) fork() *pair {
	p.t.Helper()
	f := p.x.Fork()
	if f == nil {
		p.t.Fatal("Fork: nil")
	}
	m := *p.m
	return &pair{p.t, f, &m}
}

// agree asks everything that a Timer tells without changing it.
func (p *pair) agree(what string) {
	p.t.Helper()
	for range 2 { // asking changes nothing
		if p.x.Wait() != p.m.wait() || p.x.Left() != p.m.left() || p.x.Running() != p.m.running {
			p.t.Errorf("%s, %v: wait %d, left %d, running %v, not %d, %d, %v", what, p.m.limit,
				p.x.Wait(), p.x.Left(), p.x.Running(), p.m.wait(), p.m.left(), p.m.running)
		}
	}
}

// take are the first n that an iterator yields, or fewer if it ends before.
func take(n int, all iter.Seq[int]) []int {
	var out []int
	for i := range all {
		out = append(out, i)
		if len(out) == n {
			break
		}
	}
	return out
}

// waits are the first n waits as the document says them.
func waits(n int, l limit) []int {
	var out []int
	for i := range n {
		out = append(out, (&model{limit: l, fired: i}).wait())
	}
	return out
}

// P15.1: New, Waits.

func TestNewDoesNotRun(t *testing.T) {
	for _, l := range allowed() {
		p := made(t, l)
		p.agree("new")
		if p.x.Wait() != l.base || p.x.Left() != 0 || p.x.Running() || p.x.Tick() {
			t.Errorf("New(%d, %d): wait %d, left %d, running %v", l.base, l.most, p.x.Wait(), p.x.Left(), p.x.Running())
		}
		p.agree("new, after a tick")
	}
}

func TestNewOfAllSmallLimits(t *testing.T) {
	for base := -3; base < 12; base++ {
		for most := -3; most < 12; most++ {
			x, e := backoff.New(base, most)
			if base >= 1 && most >= base {
				if x == nil || e != api.OK || x.Wait() != base {
					t.Errorf("New(%d, %d): %v, %d", base, most, x, e)
				}
				continue
			}
			if x != nil || e != api.ErrBackoff {
				t.Errorf("New(%d, %d): %v, %d", base, most, x, e)
			}
		}
	}
}

// refusals are limits that New refuses.
func refusals() []limit {
	out := []limit{{2, 1}, {5, 4}, {1 << 20, 1<<20 - 1}, {1 << 20, 1}, {1<<20 - 1, 1<<20 - 2}}
	for _, n := range outside() {
		for _, other := range append(outside(), 1, 2, 1<<19, 1<<20-1, 1<<20) {
			out = append(out, limit{n, other}, limit{other, n})
		}
	}
	return out
}

func TestNewRefusesOtherLimits(t *testing.T) {
	for _, l := range refusals() {
		if x, e := backoff.New(l.base, l.most); x != nil || e != api.ErrBackoff {
			t.Errorf("New(%d, %d): %v, %d", l.base, l.most, x, e)
		}
	}
}

func TestNewIsOneOfItsOwn(t *testing.T) {
	p := running(t, limit{2, 5}, 1)
	other := running(t, limit{2, 5}, 2)
	other.skip(3)
	p.agree("another was used")
	other.run(false)
	made(t, limit{2, 5}).agree("made later")
	p.agree("another was stopped")
}

func TestWaitsOfAllSmallLimits(t *testing.T) {
	for most := 1; most < 40; most++ {
		for base := 1; base <= most; base++ {
			l := limit{base, most}
			if got := take(9, backoff.Waits(base, most)); !slices.Equal(got, waits(9, l)) {
				t.Errorf("Waits(%d, %d): %v, not %v", base, most, got, waits(9, l))
			}
		}
	}
}

func TestWaitsAtTheEdges(t *testing.T) {
	for _, l := range allowed() {
		if got := take(100, backoff.Waits(l.base, l.most)); !slices.Equal(got, waits(100, l)) {
			t.Errorf("Waits(%d, %d): %v", l.base, l.most, got)
		}
	}
	for _, c := range []struct {
		limit
		want []int
	}{
		{limit{3, 10}, []int{3, 6, 10, 10, 10}},
		{limit{2, 5}, []int{2, 4, 5, 5, 5}},
		{limit{1, 1}, []int{1, 1, 1, 1, 1}},
		{limit{4, 16}, []int{4, 8, 16, 16, 16}},
		{limit{1 << 19, 1 << 20}, []int{1 << 19, 1 << 20, 1 << 20, 1 << 20, 1 << 20}},
		{limit{1 << 20, 1 << 20}, []int{1 << 20, 1 << 20, 1 << 20, 1 << 20, 1 << 20}},
	} {
		if got := take(5, backoff.Waits(c.base, c.most)); !slices.Equal(got, c.want) {
			t.Errorf("Waits(%d, %d): %v, not %v", c.base, c.most, got, c.want)
		}
	}
}

// TestWaitsGoOn: they do not end, however far they are ranged over.
func TestWaitsGoOn(t *testing.T) {
	for _, l := range []limit{{1, 1}, {1, 1 << 20}, {3, 10}} {
		got := take(100000, backoff.Waits(l.base, l.most))
		if len(got) != 100000 || got[99999] != l.most {
			t.Errorf("Waits(%d, %d): %d of them", l.base, l.most, len(got))
		}
	}
}

func TestWaitsWhereNewRefuses(t *testing.T) {
	for _, l := range refusals() {
		if got := take(5, backoff.Waits(l.base, l.most)); got != nil {
			t.Errorf("Waits(%d, %d): %v", l.base, l.most, got)
		}
	}
}

// TestWaitsLeftAtAnyPlace: each range over them begins anew.
func TestWaitsLeftAtAnyPlace(t *testing.T) {
	for _, l := range []limit{{1, 1}, {2, 5}, {3, 30}} {
		all := backoff.Waits(l.base, l.most)
		for n := 1; n < 12; n++ {
			if got := take(n, all); !slices.Equal(got, waits(n, l)) {
				t.Errorf("%v: the first %d of Waits: %v", l, n, got)
			}
		}
	}
}

func TestWaitsWithinEachOther(t *testing.T) {
	all := backoff.Waits(2, 9)
	var got []int
	for a := range all {
		for b := range all {
			got = append(got, a*100+b)
			if b == 9 {
				break
			}
		}
		if a == 9 {
			break
		}
	}
	want := []int{202, 204, 208, 209, 402, 404, 408, 409, 802, 804, 808, 809, 902, 904, 908, 909}
	if !slices.Equal(got, want) {
		t.Error(got)
	}
}

// P15.2: Run, Tick, Again, Reset.

func TestExampleOfTheChapter(t *testing.T) {
	x, _ := backoff.New(2, 5)
	x.Run(true)
	var fired []int
	for tick := 1; tick <= 20; tick++ {
		if x.Tick() {
			fired = append(fired, tick)
		}
	}
	if !slices.Equal(fired, []int{2, 6, 11, 16}) {
		t.Error(fired)
	}
}

func TestRunStartsWithTheWait(t *testing.T) {
	for _, l := range allowed() {
		p := made(t, l)
		p.run(true)
		if p.x.Left() != l.base || p.x.Wait() != l.base || !p.x.Running() {
			t.Errorf("%v: left %d, wait %d, running %v", l, p.x.Left(), p.x.Wait(), p.x.Running())
		}
		p.agree("run")
	}
}

// TestRunDoesNotStartAgain: a timer that runs goes on, wherever it is.
func TestRunDoesNotStartAgain(t *testing.T) {
	for gone := range 40 {
		p := running(t, limit{3, 10}, 0)
		p.skip(gone)
		left := p.x.Left()
		p.run(true)
		p.run(true)
		if p.x.Left() != left {
			t.Errorf("after %d ticks Run made %d of %d that were left", gone, p.x.Left(), left)
		}
		p.agree("run again")
		p.skip(30)
		p.agree("run again, and ticks")
	}
}

// TestRunStops: the wait stays, and it is what is left when it is started again.
func TestRunStops(t *testing.T) {
	for gone := range 40 {
		p := running(t, limit{3, 10}, 0)
		p.skip(gone)
		wait := p.x.Wait()
		for range 2 {
			p.run(false)
			if p.x.Running() || p.x.Left() != 0 || p.x.Wait() != wait {
				t.Errorf("after %d ticks: running %v, left %d, wait %d", gone, p.x.Running(), p.x.Left(), p.x.Wait())
			}
			p.agree("stopped")
		}
		p.skip(20)
		p.agree("stopped, and ticks")
		p.run(true)
		if p.x.Left() != wait {
			t.Errorf("started again after %d ticks: left %d, not %d", gone, p.x.Left(), wait)
		}
		p.agree("started again")
		p.skip(30)
		p.agree("started again, and ticks")
	}
}

func TestTickWhileItDoesNotRun(t *testing.T) {
	for fires := range 4 {
		p := running(t, limit{2, 9}, fires)
		p.tick()
		p.run(false)
		for range 30 {
			if p.x.Tick() {
				t.Errorf("fired %d times, stopped, and fired", fires)
			}
			p.agree("stopped")
		}
	}
}

func TestTickByTick(t *testing.T) {
	for most := 1; most < 14; most++ {
		for base := 1; base <= most; base++ {
			p := made(t, limit{base, most})
			p.run(true)
			for range 5*most + 1 {
				left, wait := p.x.Left(), p.x.Wait()
				fires := p.tick()
				switch {
				case fires != (left == 1):
					t.Errorf("%v: %d was left: %v", p.m.limit, left, fires)
				case fires && (p.x.Wait() != min(2*wait, most) || p.x.Left() != p.x.Wait()):
					t.Errorf("%v: fired: wait %d, then %d, left %d", p.m.limit, wait, p.x.Wait(), p.x.Left())
				case !fires && (p.x.Wait() != wait || p.x.Left() != left-1):
					t.Errorf("%v: did not fire: wait %d, then %d, left %d, then %d", p.m.limit, wait, p.x.Wait(), left, p.x.Left())
				}
				p.agree("tick")
			}
		}
	}
}

func TestAgainWaitsTheSame(t *testing.T) {
	for gone := range 40 {
		p := running(t, limit{3, 10}, 0)
		p.skip(gone)
		wait := p.x.Wait()
		p.again()
		if p.x.Left() != wait || p.x.Wait() != wait || !p.x.Running() {
			t.Errorf("Again after %d ticks: left %d, wait %d, not %d", gone, p.x.Left(), p.x.Wait(), wait)
		}
		p.agree("again")
		p.skip(wait - 1)
		if !p.tick() {
			t.Errorf("Again after %d ticks: did not fire %d later", gone, wait)
		}
		p.agree("again, and ticks")
	}
}

// TestAgainAndAgain: a timer that is set again in time never fires.
func TestAgainAndAgain(t *testing.T) {
	p := running(t, limit{3, 10}, 1)
	for range 30 {
		p.skip(5)
		p.agree("almost fired")
		p.again()
		p.agree("again")
	}
	if p.m.fired != 1 {
		t.Error("fired", p.m.fired)
	}
}

func TestAgainWhileItDoesNotRun(t *testing.T) {
	for fires := range 4 {
		p := made(t, limit{2, 9})
		if fires > 0 {
			p = running(t, limit{2, 9}, fires-1)
			p.tick()
			p.run(false)
		}
		wait := p.x.Wait()
		p.again()
		if p.x.Running() || p.x.Left() != 0 || p.x.Wait() != wait {
			t.Errorf("%d: running %v, left %d, wait %d", fires, p.x.Running(), p.x.Left(), p.x.Wait())
		}
		p.agree("again, stopped")
	}
}

func TestResetWhileItRuns(t *testing.T) {
	for gone := range 40 {
		p := running(t, limit{3, 10}, 0)
		p.skip(gone)
		p.reset()
		if p.x.Wait() != 3 || p.x.Left() != 3 || !p.x.Running() {
			t.Errorf("Reset after %d ticks: wait %d, left %d", gone, p.x.Wait(), p.x.Left())
		}
		p.agree("reset")
		p.skip(30)
		p.agree("reset, and ticks")
	}
}

func TestResetWhileItDoesNotRun(t *testing.T) {
	for gone := range 40 {
		p := running(t, limit{3, 10}, 0)
		p.skip(gone)
		p.run(false)
		p.reset()
		if p.x.Wait() != 3 || p.x.Left() != 0 || p.x.Running() {
			t.Errorf("Reset after %d ticks: wait %d, left %d, running %v", gone, p.x.Wait(), p.x.Left(), p.x.Running())
		}
		p.agree("reset")
		p.run(true)
		if p.x.Left() != 3 {
			t.Errorf("run after Reset: left %d", p.x.Left())
		}
		p.skip(30)
		p.agree("reset, and run")
	}
	p := made(t, limit{4, 4})
	p.reset()
	p.agree("reset of a new one")
}

// P15.3: Wait, Left, Running, Fork.

// TestEachCallChangesItsOwn: what a timer tells changes by the calls that the document names, and by no others.
func TestEachCallChangesItsOwn(t *testing.T) {
	for _, c := range []struct {
		what       string
		call       func(x *backoff.Timer)
		wait, left int // of a timer that runs
		off        int // the wait of one that does not
	}{
		{"nothing", func(x *backoff.Timer) {}, 6, 4, 6},
		{"run", func(x *backoff.Timer) { x.Run(true) }, 6, 4, 6},
		{"stop", func(x *backoff.Timer) { x.Run(false) }, 6, 0, 6},
		{"tick", func(x *backoff.Timer) { x.Tick() }, 6, 3, 6},
		{"again", func(x *backoff.Timer) { x.Again() }, 6, 6, 6},
		{"reset", func(x *backoff.Timer) { x.Reset() }, 3, 3, 3},
		{"fork", func(x *backoff.Timer) { x.Fork().Reset() }, 6, 4, 6},
	} {
		p := running(t, limit{3, 10}, 1)
		p.skip(2)
		off := p.x.Fork()
		off.Run(false)
		c.call(p.x)
		if p.x.Wait() != c.wait || p.x.Left() != c.left || p.x.Running() != (c.left > 0) {
			t.Errorf("%s: wait %d, left %d, running %v", c.what, p.x.Wait(), p.x.Left(), p.x.Running())
		}
		c.call(off)
		if off.Wait() != c.off || c.what != "run" && (off.Left() != 0 || off.Running()) {
			t.Errorf("%s, stopped: wait %d, left %d, running %v", c.what, off.Wait(), off.Left(), off.Running())
		}
	}
}

func TestForkGoesItsOwnWay(t *testing.T) {
	for gone := range 12 {
		p := made(t, limit{2, 7})
		p.fork().agree("fork of a new one")
		p.run(true)
		p.skip(gone)
		f := p.fork()
		f.agree("fork")
		f.skip(3)
		p.agree("its fork went on")
		f.agree("fork went on")
		g := f.fork()
		f.run(false)
		g.reset()
		p.agree("its fork was stopped")
		f.agree("fork was stopped")
		g.agree("fork of the fork was reset")
		p.again()
		p.skip(5)
		p.agree("went on")
		f.agree("the other went on")
		g.agree("the first went on")
		f.fork().agree("fork of one that does not run")
		g.skip(20)
		g.agree("fork of the fork went on")
		p.agree("the last one went on")
	}
}

func TestNotMade(t *testing.T) {
	for what, x := range notMade() {
		for range 2 { // nor does any call make it one
			x.Run(true)
			if x.Tick() || x.Running() || x.Wait() != 0 || x.Left() != 0 {
				t.Errorf("%s: wait %d, left %d, running %v", what, x.Wait(), x.Left(), x.Running())
			}
			x.Again()
			x.Reset()
			if x.Tick() || x.Running() || x.Wait() != 0 || x.Left() != 0 {
				t.Errorf("%s, reset: wait %d, left %d, running %v", what, x.Wait(), x.Left(), x.Running())
			}
			x.Run(false)
			if x.Tick() || x.Running() || x.Wait() != 0 || x.Left() != 0 {
				t.Errorf("%s, stopped: wait %d, left %d, running %v", what, x.Wait(), x.Left(), x.Running())
			}
			if f := x.Fork(); f != nil {
				t.Errorf("%s: Fork %v", what, f)
			}
		}
	}
}

// TestACopiedValueIsOneOfItsOwn: it need not be, but it has to answer.
func TestACopiedValueIsOneOfItsOwn(t *testing.T) {
	p := running(t, limit{3, 10}, 1)
	p.skip(2)
	other := *p.x
	other.Reset()
	other.Tick()
	p.agree("a copy changed")
	if other.Wait() != 3 || other.Left() != 2 || !other.Running() {
		t.Error("the copy:", other.Wait(), other.Left(), other.Running())
	}
}

// P15.4: intervals.

// intervals are after how many ticks a timer fires, so many times; none is longer than a tick more than its wait may be.
func intervals(x *backoff.Timer, times int) []int {
	var out []int
	for range times {
		ticks := 1
		for !x.Tick() && ticks <= 1<<20 {
			ticks++
		}
		out = append(out, ticks)
	}
	return out
}

func TestIntervalsAreWaits(t *testing.T) {
	for most := 1; most < 40; most++ {
		for base := 1; base <= most; base++ {
			x := made(t, limit{base, most}).x
			x.Run(true)
			if got, want := intervals(x, 9), take(9, backoff.Waits(base, most)); !slices.Equal(got, want) {
				t.Errorf("New(%d, %d): %v, not %v", base, most, got, want)
			}
		}
	}
}

func TestLongIntervalsAreWaits(t *testing.T) {
	for _, l := range allowed() {
		times := 3
		if l.base <= 3 {
			times = 23
		}
		x := made(t, l).x
		x.Run(true)
		if got, want := intervals(x, times), take(times, backoff.Waits(l.base, l.most)); !slices.Equal(got, want) {
			t.Errorf("New(%d, %d): %v, not %v", l.base, l.most, got, want)
		}
	}
}

// TestIntervalsAfterATouch: from Reset on they begin anew, and from a start or Again on with the wait that it has.
func TestIntervalsAfterATouch(t *testing.T) {
	l := limit{3, 20}
	all := take(12, backoff.Waits(l.base, l.most))
	for fires := range 6 {
		for gone := range all[fires] {
			p := running(t, l, fires)
			p.skip(gone)
			anew, again, started := p.fork(), p.fork(), p.fork()
			anew.reset()
			again.again()
			started.run(false)
			started.run(true)
			if got := intervals(anew.x, 6); !slices.Equal(got, all[:6]) {
				t.Errorf("Reset after %d fires and %d ticks: %v", fires, gone, got)
			}
			for _, x := range []*backoff.Timer{again.x, started.x} {
				if got := intervals(x, 6); !slices.Equal(got, all[fires:fires+6]) {
					t.Errorf("touched after %d fires and %d ticks: %v", fires, gone, got)
				}
			}
			if got := intervals(p.x, 6); got[0] != all[fires]-gone || !slices.Equal(got[1:], all[fires+1:fires+6]) {
				t.Errorf("not touched after %d fires and %d ticks: %v", fires, gone, got)
			}
		}
	}
}

// any call.

// call does one of all calls to a pair, and answers what goes on.
func (p *pair) call(kind, n int) *pair {
	p.t.Helper()
	switch kind % 8 {
	case 0:
		p.run(true)
	case 1:
		p.run(false)
	case 2:
		p.again()
	case 3:
		p.reset()
	case 4:
		left := p.fork()
		p.skip(n % 5)
		left.agree("the one that was forked")
	case 5:
		return p.fork()
	default:
		p.skip(n)
	}
	return p
}

func TestAnyCalls(t *testing.T) {
	for seed := range uint64(60) {
		source := draws.New(seed)
		base := 1 + source.Below(9)
		p := made(t, limit{base, base + source.Below(60)})
		for range 200 {
			p = p.call(source.Below(8), source.Below(40))
			p.agree("any calls")
		}
	}
}

func FuzzTimerAgrees(f *testing.F) {
	f.Add(2, 5, []byte{0, 0, 6, 2, 6, 4, 7, 10, 2, 0, 3, 0})
	f.Add(1, 1<<20, []byte{0, 0, 6, 200, 6, 255, 1, 0, 0, 0, 7, 255, 3, 0})
	f.Add(3, 10, []byte{6, 9, 2, 0, 0, 0, 6, 5, 5, 0, 4, 9, 1, 0, 3, 0})
	f.Add(5, 4, []byte{0, 0})
	f.Fuzz(func(t *testing.T, base, most int, calls []byte) {
		l := limit{base, most}
		x, e := backoff.New(base, most)
		if base < 1 || base > 1<<20 || most < base || most > 1<<20 {
			if x != nil || e != api.ErrBackoff || take(1, backoff.Waits(base, most)) != nil {
				t.Fatalf("New(%d, %d): %v, %d", base, most, x, e)
			}
			return
		}
		if got := take(25, backoff.Waits(base, most)); !slices.Equal(got, waits(25, l)) {
			t.Errorf("Waits(%d, %d): %v", base, most, got)
		}
		p := made(t, l)
		for ; len(calls) > 1; calls = calls[2:] {
			p = p.call(int(calls[0]), int(calls[1]))
			p.agree("any calls")
		}
	})
}
