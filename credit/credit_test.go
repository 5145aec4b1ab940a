package credit_test

import (
	"math"
	"slices"
	"testing"

	"nozzle/api"
	"nozzle/credit"
	"nozzle/draws"
)

// notMade are Accounts that neither New nor Fork made.
func notMade() map[string]*credit.Account {
	other, _ := credit.New(5) // an Account elsewhere makes nothing of these
	other.Pull(7)
	other.Spend(2)
	other.Timer()
	var zero credit.Account
	var none *credit.Account
	refused, _ := credit.New(-1)
	return map[string]*credit.Account{"nil": nil, "zero": {}, "new": new(credit.Account), "refused": refused, "its fork": zero.Fork(), "fork of nil": none.Fork()}
}

// outside are numbers that no account takes, but TakeFree.
func outside() []int {
	return []int{math.MinInt, math.MinInt + 1, -1 << 60, -1 << 32, -4096, -256, -2, -1, 1<<60 + 1, 1<<60 + 2, 1 << 61, math.MaxInt - 1, math.MaxInt}
}

// model does slowly, as the document says it, what an Account does: it keeps all numbers that came.
type model struct {
	first int
	taken []int
	pulls []int
	spent []int
	timed int
}

func sum(l []int) int {
	out := 0
	for _, n := range l {
		out += n
	}
	return out
}

func (m *model) free() int { return m.first - sum(m.taken) }

func (m *model) pulled() int { return slices.Max(append([]int{0}, m.pulls...)) }

func (m *model) left() int { return m.pulled() - sum(m.spent) }

func (m *model) takeFree(n int) int {
	switch {
	case n < 1:
		return 0
	case n > m.free():
		n = m.free()
	}
	m.taken = append(m.taken, n)
	return n
}

func (m *model) pull(n int) (int, api.Errno) {
	if n < 0 || n > 1<<60 {
		return 0, api.ErrRange
	}
	before := m.pulled()
	m.pulls = append(m.pulls, n)
	return m.pulled() - before, api.OK
}

func (m *model) spend(n int) api.Errno {
	switch {
	case n < 0:
		return api.ErrArg
	case n > m.left():
		return api.ErrCredit
	}
	m.spent = append(m.spent, n)
	return api.OK
}

func (m *model) fork() *model {
	return &model{m.first, slices.Clone(m.taken), slices.Clone(m.pulls), slices.Clone(m.spent), m.timed}
}

// pair is an Account, and the model of it: each call goes to both.
type pair struct {
	t *testing.T
	a *credit.Account
	m *model
}

func made(t *testing.T, first int) *pair {
	t.Helper()
	a, e := credit.New(first)
	if a == nil || e != api.OK {
		t.Fatalf("New(%d): %v, %d", first, a, e)
	}
	return &pair{t, a, &model{first: first}}
}

// used is a pair in which everything has happened.
func used(t *testing.T) *pair {
	t.Helper()
	p := made(t, 9)
	p.takeFree(4)
	p.pull(20)
	p.spend(7)
	p.timer()
	p.timer()
	p.timer()
	return p
}

func (p *pair) takeFree(n int) int {
	p.t.Helper()
	got, want := p.a.TakeFree(n), p.m.takeFree(n)
	if got != want {
		p.t.Errorf("TakeFree(%d): %d, not %d", n, got, want)
	}
	return got
}

func (p *pair) pull(n int) (int, api.Errno) {
	p.t.Helper()
	got, e := p.a.Pull(n)
	if want, wantE := p.m.pull(n); got != want || e != wantE {
		p.t.Errorf("Pull(%d): %d, %d, not %d, %d", n, got, e, want, wantE)
	}
	return got, e
}

func (p *pair) spend(n int) api.Errno {
	p.t.Helper()
	got, want := p.a.Spend(n), p.m.spend(n)
	if got != want {
		p.t.Errorf("Spend(%d): %d, not %d", n, got, want)
	}
	return got
}

func (p *pair) timer() int {
	p.t.Helper()
	p.m.timed++
	got := p.a.Timer()
	if got != p.m.timed {
		p.t.Errorf("Timer: %d, not %d", got, p.m.timed)
	}
	return got
}

func (p *pair) fork() *pair {
	p.t.Helper()
	f := p.a.Fork()
	if f == nil {
		p.t.Fatal("Fork: nil")
	}
	return &pair{p.t, f, p.m.fork()}
}

// numbers asks an account what it tells, in the order of its names here.
func numbers(a *credit.Account) [5]int {
	return [5]int{a.Free(), a.Pulled(), a.Spent(), a.Timed(), a.Left()}
}

// agree asks everything that an Account tells without changing it, and what it is bounded by.
func (p *pair) agree(what string) {
	p.t.Helper()
	a, m := p.a, p.m
	if got, want := numbers(a), [5]int{m.free(), m.pulled(), sum(m.spent), m.timed, m.left()}; got != want {
		p.t.Errorf("%s: free, pulled, spent, timed, left %v, not %v", what, got, want)
	}
	if a.May() != (m.left() > 0) {
		p.t.Errorf("%s: May %v, %d left", what, a.May(), m.left())
	}
	if a.Spent() < 0 || a.Spent() > a.Pulled() || a.Pulled() > m.pulled() {
		p.t.Errorf("%s: spent %d, pulled %d, received %d", what, a.Spent(), a.Pulled(), m.pulled())
	}
}

// P14.1: New, Free, TakeFree.

func TestNewTakesZeroToMaxWindow(t *testing.T) {
	for first := range 257 {
		p := made(t, first)
		p.agree("new")
		if p.a.Free() != first || numbers(p.a) != [5]int{first} || p.a.May() {
			t.Errorf("New(%d): %v", first, numbers(p.a))
		}
	}
	for _, first := range append(outside(), 257, 258, 512, 1024, 4096, 65536, 1<<20, 1<<32, 1<<32+1, 1<<60) {
		if a, e := credit.New(first); a != nil || e != api.ErrCredit {
			t.Errorf("New(%d): %v, %d", first, a, e)
		}
	}
}

func TestNewIsOneOfItsOwn(t *testing.T) {
	p := made(t, 3)
	other := made(t, 3)
	other.takeFree(2)
	other.pull(9)
	other.spend(1)
	other.timer()
	p.agree("another was used")
	made(t, 3).agree("made later")
	made(t, 0).agree("made later, without a first window")
}

func TestTakeFreeTakesWhatThereIs(t *testing.T) {
	for first := range 7 {
		for n := -2; n < 10; n++ {
			p := made(t, first)
			if got, want := p.takeFree(n), min(max(n, 0), first); got != want {
				t.Errorf("TakeFree(%d) of %d: %d, not %d", n, first, got, want)
			}
			p.agree("taken")
			for again := -2; again < 10; again++ {
				f := p.fork()
				f.takeFree(again)
				f.agree("taken again")
			}
		}
	}
}

func TestTakeFreeOneByOne(t *testing.T) {
	for _, first := range []int{0, 1, 2, 255, 256} {
		p := made(t, first)
		for i := range first {
			if p.takeFree(1) != 1 || p.a.Free() != first-1-i {
				t.Errorf("%d of %d: free %d", i, first, p.a.Free())
			}
		}
		for range 3 {
			if n := p.takeFree(1); n != 0 || p.a.Free() != 0 {
				t.Errorf("none of %d is left: %d, %d", first, n, p.a.Free())
			}
		}
		p.agree("all taken")
	}
}

func TestTakeFreeOfAnyNumber(t *testing.T) {
	for _, first := range []int{0, 1, 3, 255, 256} {
		for _, n := range append(outside(), 0, 1, 2, 254, 255, 256, 257, 1<<60) {
			p := made(t, first)
			p.takeFree(n)
			p.agree("taken")
			p.takeFree(1)
			p.agree("one more taken")
			p.takeFree(n)
			p.agree("taken again")
		}
	}
}

// TestTheFirstWindowIsApart: what is free is neither pulled nor spent, and pulls make nothing free.
func TestTheFirstWindowIsApart(t *testing.T) {
	p := made(t, 4)
	p.takeFree(3)
	if p.a.May() || p.spend(1) != api.ErrCredit {
		t.Error("what is free may be spent")
	}
	p.agree("taken")
	p.pull(10)
	p.spend(6)
	p.timer()
	if p.a.Free() != 1 || p.takeFree(9) != 1 || p.a.Left() != 4 {
		t.Error("free and left:", p.a.Free(), p.a.Left())
	}
	p.agree("pulled, spent and taken")
}

// P14.2: Pull.

func TestExampleOfTheChapter(t *testing.T) {
	a, _ := credit.New(0)
	for _, c := range [][2]int{{3, 3}, {1, 0}, {3, 0}} {
		if n, e := a.Pull(c[0]); n != c[1] || e != api.OK {
			t.Errorf("Pull(%d): %d, %d", c[0], n, e)
		}
	}
	if e := a.Spend(2); e != api.OK || a.Left() != 1 {
		t.Error("Spend(2):", e, a.Left())
	}
	if e := a.Spend(2); e != api.ErrCredit || a.Left() != 1 || a.Spent() != 2 {
		t.Error("Spend(2) again:", e, a.Left(), a.Spent())
	}
}

func TestPullTellsTheIncrease(t *testing.T) {
	for before := range 6 {
		for n := range 12 {
			p := made(t, 2)
			p.pull(before)
			more, e := p.pull(n)
			if more != max(n-before, 0) || e != api.OK || p.a.Pulled() != max(n, before) {
				t.Errorf("Pull(%d) after %d: %d, %d, pulled %d", n, before, more, e, p.a.Pulled())
			}
			p.agree("pulled")
			if more, e := p.pull(n); more != 0 || e != api.OK {
				t.Errorf("Pull(%d) twice: %d, %d", n, more, e)
			}
			p.agree("pulled twice")
		}
	}
}

func TestPullUpToMaxSeq(t *testing.T) {
	p := made(t, 0)
	for _, n := range []int{0, 1, 1 << 31, 1<<32 - 1, 1 << 32, 1<<60 - 1, 1 << 60, 1<<60 - 1, 0} {
		if _, e := p.pull(n); e != api.OK {
			t.Errorf("Pull(%d): %d", n, e)
		}
		p.agree("pulled")
	}
	if p.a.Pulled() != 1<<60 || p.a.Left() != 1<<60 {
		t.Error(p.a.Pulled(), p.a.Left())
	}
	whole := made(t, 0)
	if n, e := whole.pull(1 << 60); n != 1<<60 || e != api.OK {
		t.Error("all at once:", n, e)
	}
}

func TestPullOutOfRangeChangesNothing(t *testing.T) {
	for _, p := range []*pair{made(t, 0), made(t, 256), used(t)} {
		for _, n := range outside() {
			before := numbers(p.a)
			if more, e := p.pull(n); more != 0 || e != api.ErrRange {
				t.Errorf("Pull(%d): %d, %d", n, more, e)
			}
			if numbers(p.a) != before {
				t.Errorf("Pull(%d) changed %v into %v", n, before, numbers(p.a))
			}
			p.agree("out of range")
		}
		p.pull(30)
		p.agree("in range again")
	}
}

// P14.3: May, Left, Spend.

func TestSpendUpToLeft(t *testing.T) {
	for pulled := range 6 {
		for spent := range pulled + 1 {
			for n := -2; n < 8; n++ {
				p := made(t, 3)
				p.pull(pulled)
				p.spend(spent)
				before := numbers(p.a)
				want := api.OK
				switch {
				case n < 0:
					want = api.ErrArg
				case n > pulled-spent:
					want = api.ErrCredit
				}
				if e := p.spend(n); e != want {
					t.Errorf("Spend(%d), pulled %d, spent %d: %d", n, pulled, spent, e)
				}
				p.agree("spent")
				if want != api.OK && numbers(p.a) != before {
					t.Errorf("Spend(%d) changed %v into %v", n, before, numbers(p.a))
				}
				if want == api.OK && p.a.Spent() != spent+n {
					t.Errorf("Spend(%d) after %d: %d", n, spent, p.a.Spent())
				}
			}
		}
	}
}

func TestSpendOfNumbersFarOutside(t *testing.T) {
	for _, p := range []*pair{made(t, 0), made(t, 256), used(t)} {
		for _, n := range append(outside(), 1<<32, 1<<60) {
			want := api.ErrCredit
			if n < 0 {
				want = api.ErrArg
			}
			if e := p.spend(n); e != want {
				t.Errorf("Spend(%d): %d", n, e)
			}
			p.agree("not spent")
		}
	}
}

func TestSpendAllThatIsLeft(t *testing.T) {
	for _, pulled := range []int{0, 1, 2, 256, 257, 1 << 32, 1<<60 - 1, 1 << 60} {
		p := made(t, 1)
		p.pull(pulled)
		if p.spend(pulled+1) != api.ErrCredit || p.spend(pulled) != api.OK || p.a.Left() != 0 || p.a.May() {
			t.Errorf("of %d %d are left", pulled, p.a.Left())
		}
		p.agree("all spent")
		if p.spend(1) != api.ErrCredit || p.spend(0) != api.OK || p.spend(-1) != api.ErrArg {
			t.Errorf("of %d none is left", pulled)
		}
		p.agree("none left")
	}
}

// TestMayWhileThereIsLeft pulls and spends one by one.
func TestMayWhileThereIsLeft(t *testing.T) {
	p := made(t, 5)
	if p.a.May() {
		t.Error("May before a pull")
	}
	for n := 1; n < 40; n += 3 {
		p.pull(n)
		for p.m.left() > 0 {
			if !p.a.May() || p.spend(1) != api.OK {
				t.Errorf("pulled %d: May %v", n, p.a.May())
			}
			p.agree("spent one")
		}
		if p.a.May() || p.spend(1) != api.ErrCredit {
			t.Errorf("pulled %d, all spent: May %v", n, p.a.May())
		}
	}
}

// TestMaySaysNothingOfFreeAndTimed: neither is credit.
func TestMaySaysNothingOfFreeAndTimed(t *testing.T) {
	p := made(t, 256)
	p.timer()
	if p.a.May() || p.a.Left() != 0 {
		t.Error("May", p.a.May(), p.a.Left())
	}
	p.pull(1)
	p.timer()
	p.timer()
	if !p.a.May() || p.a.Left() != 1 {
		t.Error("May after a pull", p.a.May(), p.a.Left())
	}
}

// P14.4: Timer, Timed, Pulled, Spent, Fork.

func TestTimerCounts(t *testing.T) {
	for _, p := range []*pair{made(t, 0), made(t, 256), used(t)} {
		before := numbers(p.a)
		for i := range 300 {
			if n := p.timer(); n != before[3]+i+1 {
				t.Errorf("Timer %d: %d", i, n)
			}
			p.agree("timer")
		}
		before[3] += 300
		if numbers(p.a) != before {
			t.Errorf("%v, not %v", numbers(p.a), before)
		}
	}
}

// TestEachNumberIsOfItsOwnCalls: no call but its own changes a number.
func TestEachNumberIsOfItsOwnCalls(t *testing.T) {
	calls := []func(p *pair){
		func(p *pair) { p.takeFree(2) },
		func(p *pair) { p.pull(26) },
		func(p *pair) { p.spend(3) },
		func(p *pair) { p.timer() },
	}
	changes := [][5]int{{-2, 0, 0, 0, 0}, {0, 6, 0, 0, 6}, {0, 0, 3, 0, -3}, {0, 0, 0, 1, 0}}
	for i, call := range calls {
		p := used(t)
		want := numbers(p.a)
		for k, n := range changes[i] {
			want[k] += n
		}
		call(p)
		if numbers(p.a) != want {
			t.Errorf("call %d: %v, not %v", i, numbers(p.a), want)
		}
		p.agree("one call")
	}
}

func TestForkGoesItsOwnWay(t *testing.T) {
	for first := range 4 {
		p := made(t, first)
		made(t, first).fork().agree("fork of a new one")
		p.takeFree(1)
		p.pull(5)
		p.spend(2)
		p.timer()
		f := p.fork()
		f.agree("fork")
		f.takeFree(2)
		f.pull(11)
		f.spend(7)
		f.timer()
		f.timer()
		p.agree("its fork changed")
		f.agree("fork changed")
		g := f.fork()
		p.takeFree(1)
		p.pull(8)
		p.spend(6)
		p.timer()
		p.agree("changed")
		f.agree("the other changed")
		g.agree("fork of the fork")
		g.pull(100)
		g.spend(3)
		p.agree("fork of the fork changed")
		f.agree("its fork changed too")
		g.agree("fork of the fork changed itself")
	}
}

func TestForksBesideEachOther(t *testing.T) {
	p := used(t)
	a, b := p.fork(), p.fork()
	for i := range 20 {
		a.pull(20 + 2*i)
		b.pull(30 + i)
		a.spend(i % 3)
		b.spend(1)
		b.timer()
		p.takeFree(1)
		p.agree("itself")
		a.agree("one fork")
		b.agree("the other fork")
	}
}

func TestNotMade(t *testing.T) {
	for what, a := range notMade() {
		for range 2 { // nor does any call make it one
			for _, n := range append(outside(), 0, 1, 2, 256, 257, 1<<60) {
				if more, e := a.Pull(n); more != 0 || e != api.ErrNil {
					t.Errorf("%s: Pull(%d) %d, %d", what, n, more, e)
				}
				if e := a.Spend(n); e != api.ErrNil {
					t.Errorf("%s: Spend(%d) %d", what, n, e)
				}
				if taken := a.TakeFree(n); taken != 0 {
					t.Errorf("%s: TakeFree(%d) %d", what, n, taken)
				}
			}
			if n := a.Timer(); n != 0 {
				t.Errorf("%s: Timer %d", what, n)
			}
			if numbers(a) != [5]int{} || a.May() {
				t.Errorf("%s: %v, May %v", what, numbers(a), a.May())
			}
			if f := a.Fork(); f != nil {
				t.Errorf("%s: Fork %v", what, f)
			}
		}
	}
}

// TestACopiedValueIsOneOfItsOwn: it need not be, but it has to answer.
func TestACopiedValueIsOneOfItsOwn(t *testing.T) {
	p := used(t)
	other := *p.a
	other.Pull(50)
	other.Spend(9)
	other.Timer()
	other.TakeFree(1)
	p.agree("a copy changed")
	if numbers(&other) != [5]int{4, 50, 16, 4, 34} {
		t.Error("the copy:", numbers(&other))
	}
}

// P14.5: bound.

// TestNoMoreIsSpentThanCame asks for more than there is, all the time.
func TestNoMoreIsSpentThanCame(t *testing.T) {
	for seed := range uint64(50) {
		p := made(t, int(seed)%257)
		source := draws.New(seed)
		greatest, paid := 0, 0
		for range 200 {
			n := source.Below(60) - 5
			if _, e := p.pull(n); e == api.OK {
				greatest = max(greatest, n)
			}
			if n = source.Below(12) - 2; p.spend(n) == api.OK {
				paid += n
			}
			p.timer()
			p.takeFree(source.Below(3))
			if p.a.Pulled() != greatest || p.a.Spent() != paid || paid > greatest {
				t.Fatalf("seed %d: pulled %d of %d, spent %d of %d", seed, p.a.Pulled(), greatest, p.a.Spent(), paid)
			}
			p.agree("pulled and spent")
		}
	}
}

// P14.6: any order.

// orders are all orders of a list.
func orders(l []int) [][]int {
	if len(l) == 0 {
		return [][]int{nil}
	}
	var out [][]int
	for i, first := range l {
		for _, rest := range orders(slices.Delete(slices.Clone(l), i, i+1)) {
			out = append(out, append([]int{first}, rest...))
		}
	}
	return out
}

func TestPullsInAnyOrder(t *testing.T) {
	for _, l := range [][]int{{0, 1, 2, 3, 4, 5}, {7, 7, 3, 0, 3}, {1 << 60, 1<<60 - 1, 5, 5}, {0, 0, 0}, {9, -1, 12, 1<<60 + 1, 4}} {
		sorted := slices.Sorted(slices.Values(l))
		once := made(t, 3)
		for _, n := range sorted {
			once.pull(n)
		}
		for _, order := range orders(l) {
			p := made(t, 3)
			increases := 0
			for _, n := range order {
				more, _ := p.pull(n)
				increases += more
			}
			if numbers(p.a) != numbers(once.a) || increases != once.a.Pulled() {
				t.Errorf("%v: %v, not %v; increased by %d", order, numbers(p.a), numbers(once.a), increases)
			}
		}
	}
}

// TestPullsTwiceAndLate lets numbers come again, at any time, also when they were spent.
func TestPullsTwiceAndLate(t *testing.T) {
	for seed := range uint64(30) {
		plain, twice := made(t, 2), made(t, 2)
		source := draws.New(seed)
		var came []int
		for n := 1; n < 60; n += 1 + source.Below(3) {
			plain.pull(n)
			came = append(came, n)
			twice.pull(n)
			for range source.Below(4) {
				if more, e := twice.pull(came[source.Below(len(came))]); more != 0 || e != api.OK {
					t.Errorf("seed %d: again: %d, %d", seed, more, e)
				}
			}
			spend := source.Below(3)
			plain.spend(spend)
			twice.spend(spend)
			if numbers(plain.a) != numbers(twice.a) {
				t.Fatalf("seed %d: %v and %v", seed, numbers(plain.a), numbers(twice.a))
			}
			twice.agree("twice and late")
		}
	}
}

// TestALostPullIsMadeUpFor: the next one has a greater number, and both are spent.
func TestALostPullIsMadeUpFor(t *testing.T) {
	p := made(t, 2)
	p.pull(1)
	p.spend(1)
	if more, e := p.pull(3); more != 2 || e != api.OK || p.spend(2) != api.OK {
		t.Error("the second was lost:", more, e)
	}
	if more, _ := p.pull(2); more != 0 || p.a.May() {
		t.Error("it was late:", more, p.a.Left())
	}
	p.agree("lost and late")
}

// any call.

func FuzzAccountAgrees(f *testing.F) {
	f.Add(3, []byte{0, 2, 1, 3, 2, 2, 3, 0, 4, 0, 1, 9, 2, 200})
	f.Add(256, []byte{1, 255, 2, 255, 4, 0, 2, 250, 1, 254})
	f.Add(0, []byte{5, 0, 6, 0, 1, 5, 2, 5, 2, 1})
	f.Fuzz(func(t *testing.T, first int, calls []byte) {
		a, e := credit.New(first)
		if first < 0 || first > 256 {
			if a != nil || e != api.ErrCredit {
				t.Fatalf("New(%d): %v, %d", first, a, e)
			}
			return
		}
		p := made(t, first)
		far := append(outside(), 1<<60, 1<<60-1, 1<<32)
		for ; len(calls) > 1; calls = calls[2:] {
			n := int(int8(calls[1]))
			switch calls[0] % 8 {
			case 0:
				p.takeFree(n)
			case 1:
				p.pull(p.m.pulled() + n)
			case 2:
				p.spend(n)
			case 3:
				p.timer()
			case 4:
				left := p.fork()
				p.spend(p.m.left() + n%2)
				left.agree("the one that was forked")
			case 5:
				p.pull(far[int(calls[1])%len(far)])
			case 6:
				p.spend(far[int(calls[1])%len(far)])
			case 7:
				p = p.fork()
			}
			p.agree("any calls")
		}
	})
}
