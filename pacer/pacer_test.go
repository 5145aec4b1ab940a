package pacer_test

import (
	"math"
	"slices"
	"testing"

	"nozzle/api"
	"nozzle/pacer"
)

// keys are the n-th keys.
func keys(l ...int) []pacer.Key {
	var out []pacer.Key
	for _, n := range l {
		out = append(out, key(n))
	}
	return out
}

// want holds the keys of turns against those that there should be.
func (p *pair) want(what string, got []pacer.Key, want ...int) {
	p.t.Helper()
	if !slices.Equal(got, keys(want...)) {
		p.t.Errorf("%s: %v, not %v", what, got, keys(want...))
	}
	p.agree(what)
}

// P18.1: New, Know, Forget.

func TestNewTakesOneTo512(t *testing.T) {
	for most := 1; most <= 512; most++ {
		p, e := pacer.New(most)
		if p == nil || e != api.OK {
			t.Fatalf("New(%d): %v, %d", most, p, e)
		}
		for n := range most {
			if e := p.Know(key(n), n%2); e != api.OK || p.Len() != n+1 {
				t.Fatalf("%d of %d: %d, %d known", n, most, e, p.Len())
			}
		}
		for n := most; n < most+3; n++ {
			if e := p.Know(key(n), n%2); e != api.ErrMany || p.Len() != most {
				t.Fatalf("%d of %d: %d, %d known", n, most, e, p.Len())
			}
		}
	}
}

func TestNewRefusesOtherNumbers(t *testing.T) {
	for _, most := range []int{math.MinInt, -512, -2, -1, 0, 513, 514, 1023, 1024, 1025, 1 << 20, 1 << 32, 1<<32 + 1, math.MaxInt} {
		if p, e := pacer.New(most); p != nil || e != api.ErrPacer {
			t.Errorf("New(%d): %v, %d", most, p, e)
		}
	}
}

func TestNewKnowsNobody(t *testing.T) {
	for _, most := range []int{1, 2, 511, 512} {
		p := made(t, most)
		p.agree("new")
		if _, ok := p.tick(); ok || p.p.Len() != 0 || p.p.Total() != 0 {
			t.Errorf("New(%d): %d known, %d told", most, p.p.Len(), p.p.Total())
		}
		if n, ok := p.forget(key(0)); n != 0 || ok || p.owe(key(0), 1) != api.ErrNone {
			t.Errorf("New(%d): %d, %v", most, n, ok)
		}
		p.agree("asked")
	}
}

func TestNewIsOneOfItsOwn(t *testing.T) {
	p := waiting(t, 1, 1, 3)
	other := waiting(t, 2, 2, 9)
	other.ticks(7)
	other.forget(key(0))
	p.agree("another was used")
	made(t, 3).agree("made later")
}

// TestEachQueueHasRoomForAll: all keys may be of one class, and wait.
func TestEachQueueHasRoomForAll(t *testing.T) {
	for class := range 2 {
		p, _ := pacer.New(512)
		for n := range 512 {
			p.Know(key(n), class)
			p.Owe(key(n), 2)
		}
		for n := range 1024 {
			if x, ok := p.Tick(); !ok || x.Key != key(n%512) || x.N != 1+n/512 {
				t.Fatalf("turn %d of class %d: %v, %v", n, class, x, ok)
			}
		}
		if x, ok := p.Tick(); ok || p.Total() != 1024 {
			t.Errorf("class %d: %v, %d told", class, x, p.Total())
		}
	}
}

func TestKnowTakesValidKeys(t *testing.T) {
	for class := range 2 {
		p := made(t, 64)
		for src := range 8 {
			for _, conn := range []int{1, 2, 1<<30 - 1, 1 << 30} {
				k := pacer.Key{Src: src, Conn: conn}
				if e := p.know(k, class); e != api.OK || p.p.Pending(k) != 0 || p.p.Issued(k) != 0 {
					t.Errorf("Know(%v, %d): %d, %d pending, %d issued", k, class, e, p.p.Pending(k), p.p.Issued(k))
				}
			}
		}
		if p.p.Len() != 32 || len(p.p.Queue(class)) != 0 {
			t.Errorf("class %d: %d known, %v wait", class, p.p.Len(), p.p.Queue(class))
		}
		p.agree("known")
	}
}

func TestKnowRefusesOtherKeysAndClasses(t *testing.T) {
	for _, p := range []*pair{made(t, 2), waiting(t, 1, 1, 3)} {
		for _, k := range notKeys() {
			for _, class := range append(notClasses(), plain, urgent) {
				if e := p.know(k, class); e != api.ErrArg {
					t.Errorf("Know(%v, %d): %d", k, class, e)
				}
			}
			if _, ok := p.forget(k); ok || p.owe(k, 1) != api.ErrNone {
				t.Errorf("%v is known", k)
			}
			p.number("not a key", k)
		}
		for _, class := range notClasses() {
			for n := range 4 {
				if e := p.know(key(n), class); e != api.ErrArg {
					t.Errorf("Know(%v, %d): %d", key(n), class, e)
				}
			}
		}
		p.agree("refused")
	}
}

func TestKnowOnce(t *testing.T) {
	p := made(t, 3)
	p.know(key(0), urgent)
	p.know(key(1), plain)
	p.owe(key(0), 4)
	p.ticks(1)
	for _, class := range []int{plain, urgent} {
		if p.know(key(0), class) != api.ErrPacer || p.know(key(1), class) != api.ErrPacer {
			t.Error("known twice, class", class)
		}
		p.agree("known twice")
	}
	p.owe(key(1), 1)
	p.want("the classes stay", p.ticks(9), 0, 0, 0, 1)
}

// TestErrorsOfKnowInOrder: a key or a class that may not be, then one that is known, then one too many.
func TestErrorsOfKnowInOrder(t *testing.T) {
	full := waiting(t, 1, 1, 0)
	full.know(key(2), plain)
	for _, c := range []struct {
		k     pacer.Key
		class int
		e     api.Errno
	}{
		{key(0), 2, api.ErrArg},
		{key(0), -1, api.ErrArg},
		{key(0), plain, api.ErrPacer},
		{key(0), urgent, api.ErrPacer},
		{key(1), plain, api.ErrPacer},
		{key(3), 2, api.ErrArg},
		{key(3), plain, api.ErrMany},
		{key(3), urgent, api.ErrMany},
		{pacer.Key{Src: 8, Conn: 1}, plain, api.ErrArg},
		{pacer.Key{Src: 0, Conn: 0}, urgent, api.ErrArg},
		{pacer.Key{}, 9, api.ErrArg},
	} {
		if e := full.know(c.k, c.class); e != c.e {
			t.Errorf("Know(%v, %d): %d, not %d", c.k, c.class, e, c.e)
		}
		full.agree("refused")
	}
}

// TestKeysAreTheirSrcAndConn: keys that have one of both in common are not one.
func TestKeysAreTheirSrcAndConn(t *testing.T) {
	p := made(t, 9)
	for src := range 3 {
		for conn := range 3 {
			k := pacer.Key{Src: src, Conn: 1 + conn}
			p.know(k, plain)
			p.owe(k, 1+src*3+conn)
		}
	}
	p.agree("owed")
	p.forget(pacer.Key{Src: 1, Conn: 2})
	p.agree("one is forgotten")
	p.ticks(50)
	p.agree("all are issued")
}

func TestForgetTellsWhatWasPending(t *testing.T) {
	for owed := range 6 {
		for turns := range owed + 1 {
			p := waiting(t, 0, 1, owed)
			p.ticks(turns)
			if n, ok := p.forget(key(0)); n != owed-turns || !ok {
				t.Errorf("%d of %d were issued: %d, %v", turns, owed, n, ok)
			}
			if n, ok := p.forget(key(0)); n != 0 || ok || p.p.Len() != 0 {
				t.Errorf("forgotten twice: %d, %v", n, ok)
			}
			if e := p.owe(key(0), 1); e != api.ErrNone {
				t.Error("owed to who is forgotten:", e)
			}
			if x, ok := p.tick(); ok {
				t.Error("who is forgotten was selected:", x)
			}
			p.agree("forgotten")
		}
	}
}

// TestForgetRemovesFromItsQueue takes out the first one, the last one, and those between.
func TestForgetRemovesFromItsQueue(t *testing.T) {
	for class := range 2 {
		for gone := range 5 {
			p := made(t, 6)
			for n := range 5 {
				p.know(key(n), class)
				p.owe(key(n), 2)
			}
			p.ticks(2)
			p.forget(key(gone))
			var left []int
			for _, n := range []int{2, 3, 4, 0, 1} {
				if n != gone {
					left = append(left, n)
				}
			}
			p.want("the queue that is left", p.p.Queue(class), left...)
			p.want("turns that are left", p.ticks(4), left...)
		}
	}
}

func TestForgetOfOneThatDoesNotWait(t *testing.T) {
	p := waiting(t, 2, 2, 0)
	p.owe(key(0), 1)
	p.owe(key(3), 1)
	for _, n := range []int{1, 2} {
		if left, ok := p.forget(key(n)); left != 0 || !ok {
			t.Errorf("Forget(%v): %d, %v", key(n), left, ok)
		}
		p.agree("forgotten")
	}
	p.want("the others", p.ticks(3), 3, 0)
}

func TestForgetMakesRoom(t *testing.T) {
	p := made(t, 2)
	p.know(key(0), plain)
	p.know(key(1), plain)
	for n := 2; n < 30; n++ {
		if e := p.know(key(n), n%2); e != api.ErrMany {
			t.Errorf("%d: %d", n, e)
		}
		p.forget(key(n - 2))
		if e := p.know(key(n), n%2); e != api.OK {
			t.Errorf("%d: %d", n, e)
		}
		p.owe(key(n), 3)
		p.tick()
		p.agree("there was room")
	}
}

// TestKnownAnewBeginsAnew: nothing is pending or issued, and the class may be the other one.
func TestKnownAnewBeginsAnew(t *testing.T) {
	for _, class := range []int{plain, urgent} {
		p := waiting(t, 1, 1, 5)
		p.ticks(6)
		p.forget(key(0))
		if e := p.know(key(0), class); e != api.OK || p.p.Pending(key(0)) != 0 || p.p.Issued(key(0)) != 0 || len(p.p.Queue(class)) > 1 {
			t.Errorf("known anew: %d, %d pending, %d issued", e, p.p.Pending(key(0)), p.p.Issued(key(0)))
		}
		p.agree("known anew")
		p.owe(key(0), 2)
		p.agree("owed anew")
		p.ticks(9)
		p.agree("issued anew")
	}
}

// P18.2: Owe.

func TestOweAddsUp(t *testing.T) {
	for class := range 2 {
		p := made(t, 2)
		p.know(key(0), class)
		sum := 0
		for n := 1; n < 20; n++ {
			sum += n
			if e := p.owe(key(0), n); e != api.OK || p.p.Pending(key(0)) != sum || p.p.Issued(key(0)) != 0 {
				t.Errorf("Owe(%d): %d, %d pending", n, e, p.p.Pending(key(0)))
			}
			if !slices.Equal(p.p.Queue(class), keys(0)) || len(p.p.Queue(1-class)) > 0 {
				t.Errorf("queues %v, %v", p.p.Queue(0), p.p.Queue(1))
			}
		}
		p.agree("owed")
	}
}

// TestOweAppendsOnce: who waits keeps the place, who does not comes to the end.
func TestOweAppendsOnce(t *testing.T) {
	for class := range 2 {
		p := made(t, 5)
		for n := range 4 {
			p.know(key(n), class)
		}
		p.owe(key(2), 1)
		p.owe(key(0), 2)
		p.owe(key(3), 1)
		p.want("in the order in which they were owed", p.p.Queue(class), 2, 0, 3)
		p.owe(key(0), 1)
		p.owe(key(2), 1)
		p.want("owed more", p.p.Queue(class), 2, 0, 3)
		p.owe(key(1), 1)
		p.want("another", p.p.Queue(class), 2, 0, 3, 1)
		p.want("turns", p.ticks(4), 2, 0, 3, 1)
		p.want("who had one alone waits no more", p.p.Queue(class), 2, 0)
		p.owe(key(3), 1)
		p.want("and comes to the end", p.p.Queue(class), 2, 0, 3)
		p.want("turns to the end", p.ticks(9), 2, 0, 3, 0)
	}
}

func TestOweOfNoNumber(t *testing.T) {
	for _, p := range []*pair{waiting(t, 1, 1, 0), waiting(t, 1, 1, 3)} {
		for _, n := range []int{math.MinInt, math.MinInt + 1, -1 << 60, -1 << 32, -3, -2, -1, 0} {
			for i := range 2 {
				if e := p.owe(key(i), n); e != api.ErrArg {
					t.Errorf("Owe(%v, %d): %d", key(i), n, e)
				}
			}
			p.agree("refused")
		}
	}
}

// TestOweToNobody: that there is no such key comes first.
func TestOweToNobody(t *testing.T) {
	p := waiting(t, 1, 1, 1)
	for _, k := range append(notKeys(), key(2), key(9), pacer.Key{Src: 1, Conn: 2}) {
		for _, n := range []int{math.MinInt, -1, 0, 1, 2, 1 << 60, 1<<60 + 1, math.MaxInt} {
			if e := p.owe(k, n); e != api.ErrNone {
				t.Errorf("Owe(%v, %d): %d", k, n, e)
			}
		}
		p.agree("refused")
	}
}

func TestOweUpToMaxSeq(t *testing.T) {
	for _, had := range []int{0, 1, 2, 1 << 31, 1 << 59, 1<<60 - 1, 1 << 60} {
		p := waiting(t, 1, 1, had)
		room := 1<<60 - had
		for _, n := range []int{room + 1, room + 2, 1<<60 + 1, 1 << 61, math.MaxInt - 1, math.MaxInt} {
			for i := range 2 {
				if e := p.owe(key(i), n); e != api.ErrRange || p.p.Pending(key(i)) != had {
					t.Errorf("Owe(%v, %d) of %d: %d, %d", key(i), n, had, e, p.p.Pending(key(i)))
				}
			}
			p.agree("out of range")
		}
		if room > 0 && p.owe(key(0), room) != api.OK || p.p.Pending(key(0)) != 1<<60 {
			t.Errorf("%d of %d: %d", room, had, p.p.Pending(key(0)))
		}
		p.agree("in range")
		if p.owe(key(0), 1) != api.ErrRange {
			t.Error("one more of", had)
		}
		p.forget(key(1))
		p.ticks(3)
		if p.owe(key(0), 4) != api.ErrRange || p.owe(key(0), 3) != api.OK || p.p.Issued(key(0)) != 3 || p.p.Pending(key(0)) != 1<<60 {
			t.Errorf("three were issued: %d, %d", p.p.Issued(key(0)), p.p.Pending(key(0)))
		}
		p.agree("three were issued")
	}
}

// P18.3: Tick.

func TestExampleOfTheChapter(t *testing.T) {
	p, _ := pacer.New(2)
	a, b := pacer.Key{Src: 4, Conn: 7}, pacer.Key{Src: 0, Conn: 1}
	p.Know(a, urgent)
	p.Know(b, plain)
	p.Owe(a, 9)
	p.Owe(b, 1)
	for i, want := range []pacer.Pull{{Key: a, N: 1}, {Key: a, N: 2}, {Key: a, N: 3}, {Key: a, N: 4}, {Key: b, N: 1}, {Key: a, N: 5}} {
		if x, ok := p.Tick(); x != want || !ok {
			t.Errorf("turn %d: %v, %v, not %v", i, x, ok, want)
		}
	}
}

func TestBurstIsFour(t *testing.T) {
	if pacer.Burst != 4 {
		t.Error(pacer.Burst)
	}
}

func TestTickTellsTheNumber(t *testing.T) {
	for class := range 2 {
		p := made(t, 2)
		p.know(key(0), class)
		p.owe(key(0), 5)
		for n := range 5 {
			x, ok := p.tick()
			if x != (pacer.Pull{Key: key(0), N: n + 1}) || !ok || p.p.Pending(key(0)) != 4-n || p.p.Issued(key(0)) != n+1 || p.p.Total() != n+1 {
				t.Errorf("turn %d: %v, %v, %d pending, %d issued, %d told", n, x, ok, p.p.Pending(key(0)), p.p.Issued(key(0)), p.p.Total())
			}
		}
		for range 3 {
			if x, ok := p.tick(); x != (pacer.Pull{}) || ok {
				t.Errorf("nobody waits: %v, %v", x, ok)
			}
			p.agree("nobody waits")
		}
		p.owe(key(0), 2)
		if x, _ := p.tick(); x.N != 6 {
			t.Errorf("the number goes on: %v", x)
		}
	}
}

func TestTurnsWithinAClass(t *testing.T) {
	for class := range 2 {
		p := made(t, 4)
		for n := range 3 {
			p.know(key(n), class)
		}
		p.owe(key(1), 3)
		p.owe(key(0), 1)
		p.owe(key(2), 5)
		p.want("in turns", p.ticks(20), 1, 0, 2, 1, 2, 1, 2, 2, 2)
	}
}

// TestUrgentOnesFirst: a plain one gets its turn where no urgent one waits, or after four that it waited for.
func TestUrgentOnesFirst(t *testing.T) {
	for urgents := range 12 {
		for plains := range 5 {
			p := made(t, 2)
			p.know(key(0), plain)
			p.know(key(1), urgent)
			if urgents > 0 {
				p.owe(key(1), urgents)
			}
			if plains > 0 {
				p.owe(key(0), plains)
			}
			var want []int
			for u, l := urgents, plains; u > 0 || l > 0; {
				for n := 0; u > 0 && (n < 4 || l == 0); n++ {
					want = append(want, 1)
					u--
				}
				if l > 0 {
					want = append(want, 0)
					l--
				}
			}
			p.want("both classes", p.ticks(40), want...)
		}
	}
}

func TestTurnsOfManyKeysOfBothClasses(t *testing.T) {
	p := waiting(t, 2, 3, 6) // 0 and 1 are plain, 2, 3 and 4 urgent
	p.want("all wait", p.ticks(16), 2, 3, 4, 2, 0, 3, 4, 2, 3, 1, 4, 2, 3, 4, 0, 2)
	p.want("queue of the plain ones", p.p.Queue(plain), 1, 0)
	p.want("queue of the urgent ones", p.p.Queue(urgent), 3, 4, 2)
	p.want("to the end", p.ticks(99), 3, 4, 2, 1, 3, 4, 0, 1, 0, 1, 0, 1, 0, 1)
}

// TestUrgentTurnsBeforeAPlainKeyWaitsDoNotCount: only those count for which one was waiting when they began.
func TestUrgentTurnsBeforeAPlainKeyWaitsDoNotCount(t *testing.T) {
	for before := range 10 {
		p := waiting(t, 1, 1, 0)
		p.owe(key(1), 30)
		p.ticks(before)
		p.owe(key(0), 2)
		p.want("the first one", p.ticks(6), 1, 1, 1, 1, 0, 1)
		p.want("the second one", p.ticks(4), 1, 1, 1, 0)
		p.want("none", p.ticks(6), 1, 1, 1, 1, 1, 1)
	}
}

// TestAnUrgentTurnWithoutAWaitingPlainKeyBeginsTheCountAnew: also where all of them were waited for before.
func TestAnUrgentTurnWithoutAWaitingPlainKeyBeginsTheCountAnew(t *testing.T) {
	for before := range 5 {
		p := waiting(t, 1, 1, 30)
		p.ticks(before)
		p.forget(key(0))
		p.ticks(1)
		p.know(key(0), plain)
		p.owe(key(0), 3)
		p.want("begun anew", p.ticks(6), 1, 1, 1, 1, 0, 1)
	}
}

// TestTheCountStaysWithoutAnUrgentTurn: a plain key that goes, and another one that comes ahead of the next turn, leave it as it was.
func TestTheCountStaysWithoutAnUrgentTurn(t *testing.T) {
	for before := range 5 {
		p := waiting(t, 1, 1, 30)
		p.ticks(before)
		p.forget(key(0))
		p.know(key(5), plain)
		p.owe(key(5), 3)
		want := append(slices.Repeat([]int{1}, 4-before), 5, 1)
		p.want("the count went on", p.ticks(len(want)), want...)
	}
}

// TestAPlainTurnBeginsTheCountAnew: also one that was because no urgent key was waiting.
func TestAPlainTurnBeginsTheCountAnew(t *testing.T) {
	for before := 1; before <= 4; before++ {
		p := waiting(t, 1, 1, 0)
		p.owe(key(0), 20)
		p.owe(key(1), before)
		p.ticks(before)
		p.want("no urgent one waits", p.ticks(2), 0, 0)
		p.owe(key(1), 20)
		p.want("begun anew", p.ticks(7), 1, 1, 1, 1, 0, 1, 1)
	}
}

// TestATickOfNobodyIsNoTurn: the count goes on behind it.
func TestATickOfNobodyIsNoTurn(t *testing.T) {
	for before := range 5 {
		p := waiting(t, 1, 1, 0)
		p.owe(key(0), 2)
		if before > 0 {
			p.owe(key(1), before)
		}
		p.ticks(before)
		p.forget(key(0))
		for range 3 {
			if x, ok := p.tick(); ok {
				t.Error("nobody waits:", x)
			}
		}
		p.know(key(0), plain)
		p.owe(key(0), 2)
		p.owe(key(1), 20)
		want := append(slices.Repeat([]int{1}, 4-before), 0, 1, 1, 1, 1, 0, 1)
		p.want("behind it", p.ticks(len(want)), want...)
	}
}

// TestTheCountIsOfTheClass: urgent turns count whoever's they are, and other calls between them do not matter.
func TestTheCountIsOfTheClass(t *testing.T) {
	p := made(t, 9)
	p.know(key(0), plain)
	p.owe(key(0), 9)
	var got []pacer.Key
	for n := 1; n < 8; n++ {
		p.know(key(n), urgent)
		p.owe(key(n), 1)
		got = append(got, p.ticks(1)...)
		p.owe(key(0), 1)
		if n != 5 { // its turn is still to come
			p.forget(key(n))
		}
		p.know(key(n), plain)
	}
	p.want("one urgent key after the other", got, 1, 2, 3, 4, 0, 5, 7)
}

func TestTickChangesTheSelectedKeyAlone(t *testing.T) {
	p := waiting(t, 3, 3, 4)
	for range 24 {
		before := map[pacer.Key][2]int{}
		for n := range 6 {
			before[key(n)] = [2]int{p.p.Pending(key(n)), p.p.Issued(key(n))}
		}
		x, _ := p.tick()
		for k, had := range before {
			if k == x.Key {
				had[0]--
				had[1]++
			}
			if got := [2]int{p.p.Pending(k), p.p.Issued(k)}; got != had {
				t.Errorf("%v was selected, %v has %v, not %v", x, k, got, had)
			}
		}
	}
}

// P18.4: the others.

func TestNumbersOfOtherKeys(t *testing.T) {
	p := waiting(t, 2, 2, 5)
	p.ticks(7)
	for _, k := range append(notKeys(), key(4), key(12), pacer.Key{Src: 0, Conn: 1 << 30}) {
		if p.p.Pending(k) != 0 || p.p.Issued(k) != 0 {
			t.Errorf("%v: %d pending, %d issued", k, p.p.Pending(k), p.p.Issued(k))
		}
	}
	p.forget(key(0))
	if p.p.Pending(key(0)) != 0 || p.p.Issued(key(0)) != 0 {
		t.Errorf("forgotten: %d pending, %d issued", p.p.Pending(key(0)), p.p.Issued(key(0)))
	}
}

// TestTotalCountsSelections: not Ticks for which nobody waits, and also those of keys that are forgotten by now.
func TestTotalCountsSelections(t *testing.T) {
	p := made(t, 3)
	p.tick()
	for n := range 6 {
		p.know(key(n), n%2)
		p.owe(key(n), 2)
		p.ticks(1)
		p.forget(key(n))
		p.tick()
		if p.p.Total() != n+1 || p.p.Len() != 0 {
			t.Errorf("%d were told, not %d", p.p.Total(), n+1)
		}
	}
	p.agree("all are forgotten")
}

func TestQueueOfAClass(t *testing.T) {
	p := waiting(t, 2, 3, 0)
	if len(p.p.Queue(plain)) != 0 || len(p.p.Queue(urgent)) != 0 {
		t.Error("nobody waits:", p.p.Queue(plain), p.p.Queue(urgent))
	}
	for _, n := range []int{3, 1, 4, 0} {
		p.owe(key(n), n+1)
	}
	p.want("plain", p.p.Queue(plain), 1, 0)
	p.want("urgent", p.p.Queue(urgent), 3, 4)
	for _, class := range notClasses() {
		if l := p.p.Queue(class); len(l) != 0 {
			t.Errorf("Queue(%d): %v", class, l)
		}
	}
}

func TestQueueIsNewMemory(t *testing.T) {
	p := waiting(t, 3, 3, 4)
	for class := range 2 {
		l, other := p.p.Queue(class), p.p.Queue(class)
		kept := slices.Clone(l)
		clear(l)
		_ = append(l[:1], key(9), key(9), key(9), key(9))
		p.agree("a result was changed")
		p.ticks(5)
		p.forget(kept[0])
		p.owe(kept[1], 3)
		if !slices.Equal(other, kept) {
			t.Errorf("class %d: a result changed: %v, not %v", class, other, kept)
		}
		p.agree("used")
	}
}

func TestForkGoesItsOwnWay(t *testing.T) {
	for before := range 12 {
		p := waiting(t, 2, 2, 5)
		p.ticks(before)
		f := p.fork()
		f.agree("fork")
		p.forget(key(0))
		p.know(key(7), urgent)
		p.owe(key(7), 2)
		f.agree("the other changed")
		f.know(key(8), plain)
		f.owe(key(8), 1)
		f.owe(key(2), 7)
		g := f.fork()
		f.forget(key(3))
		f.ticks(3)
		p.agree("itself")
		g.agree("fork of the fork")
		p.ticks(20)
		f.ticks(20)
		g.ticks(20)
		p.agree("itself, to the end")
		f.agree("fork, to the end")
		g.agree("fork of the fork, to the end")
	}
}

// TestForkHasTheRoomAndTheCount: what a Pacer does not tell goes along too.
func TestForkHasTheRoomAndTheCount(t *testing.T) {
	for before := range 5 {
		p := waiting(t, 1, 1, 20)
		p.ticks(before)
		f := p.fork()
		if f.know(key(2), plain) != api.OK || f.know(key(3), plain) != api.ErrMany || p.p.Len() != 2 {
			t.Errorf("room: %d, %d known", f.p.Len(), p.p.Len())
		}
		want := append(slices.Repeat([]int{1}, 4-before), 0, 1)
		f.want("fork", f.ticks(len(want)), want...)
		p.want("itself", p.ticks(len(want)), want...)
	}
}

// TestForksBesideEachOther changes all by turns, so that queues with room behind their ends would be shared.
func TestForksBesideEachOther(t *testing.T) {
	p := waiting(t, 8, 8, 2)
	for n := range 8 {
		p.know(key(16), n%2)
		p.ticks(3)
		f, g := p.fork(), p.fork()
		for i := range 4 {
			f.owe(key(i), 1)
			g.owe(key(3-i), 2)
			p.owe(key(15-i), 1)
			f.tick()
			g.forget(key(8 + i))
			p.tick()
			g.tick()
		}
		f.agree("fork")
		g.agree("other fork")
		p.agree("itself")
		p.forget(key(16))
	}
}

func TestNotMade(t *testing.T) {
	for what, p := range notMade() {
		for range 2 { // nor does any call make it one
			for _, k := range append(notKeys(), key(0), key(1)) {
				for _, class := range append(notClasses(), plain, urgent) {
					if e := p.Know(k, class); e != api.ErrNil {
						t.Errorf("%s: Know(%v, %d) %d", what, k, class, e)
					}
				}
				for _, n := range []int{-1, 0, 1, 1<<60 + 1} {
					if e := p.Owe(k, n); e != api.ErrNil {
						t.Errorf("%s: Owe(%v, %d) %d", what, k, n, e)
					}
				}
				if n, ok := p.Forget(k); n != 0 || ok || p.Pending(k) != 0 || p.Issued(k) != 0 {
					t.Errorf("%s: Forget(%v) %d, %v, %d pending, %d issued", what, k, n, ok, p.Pending(k), p.Issued(k))
				}
			}
			if x, ok := p.Tick(); x != (pacer.Pull{}) || ok {
				t.Errorf("%s: Tick %v, %v", what, x, ok)
			}
			if p.Total() != 0 || p.Len() != 0 {
				t.Errorf("%s: Total %d, Len %d", what, p.Total(), p.Len())
			}
			for class := -1; class < 3; class++ {
				if l := p.Queue(class); l != nil {
					t.Errorf("%s: Queue(%d) %v", what, class, l)
				}
			}
			if f := p.Fork(); f != nil {
				t.Errorf("%s: Fork %v", what, f)
			}
		}
	}
}

// TestACopiedValueDoesNotPanic: what it answers is not said, but it answers.
func TestACopiedValueDoesNotPanic(t *testing.T) {
	for before := range 6 {
		p := waiting(t, 2, 2, 5)
		p.ticks(before)
		other := *p.p
		for n := range 8 {
			p.p.Forget(key(n))
			other.Know(key(n), n%2)
			p.p.Know(key(n+1), plain)
			other.Owe(key(n), 2)
			p.p.Owe(key(n-1), 1)
			p.p.Tick()
			other.Tick()
			other.Fork().Tick()
			p.p.Fork().Tick()
			other.Forget(key(n - 1))
			p.p.Queue(plain)
			other.Queue(urgent)
		}
	}
}
