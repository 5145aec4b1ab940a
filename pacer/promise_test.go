package pacer_test

import (
	"testing"

	"nozzle/api"
	"nozzle/draws"
	"nozzle/pacer"
)

// P18.5: fairness.

// TestNobodyIsSelectedTwiceBetween: keys that always have pending pulls take turns, whatever the others of their class and those of the other class do.
func TestNobodyIsSelectedTwiceBetween(t *testing.T) {
	for seed := range uint64(80) {
		s := draws.New(seed)
		always := 2 + s.Below(4)
		p, _ := pacer.New(20)
		for n := range 20 {
			p.Know(key(n), n%2)
			if n < 2*always {
				p.Owe(key(n), 1000)
			}
		}
		times := map[[2]pacer.Key]int{} // how often the second one was selected since the first one was
		for range 600 {
			if n := 2*always + s.Below(20-2*always); s.Below(3) == 0 {
				p.Owe(key(n), 1+s.Below(3))
			}
			x, ok := p.Tick()
			if !ok {
				t.Fatalf("seed %d: nobody waits", seed)
			}
			for n := range 2 * always {
				times[[2]pacer.Key{x.Key, key(n)}] = 0
				pair := [2]pacer.Key{key(n), x.Key}
				times[pair]++
				if x.Key != key(n) && isOfTheFirst(x.Key, 2*always, n%2) && times[pair] > 1 {
					t.Fatalf("seed %d: %v twice between two turns of %v", seed, x.Key, key(n))
				}
			}
		}
	}
}

// isOfTheFirst tells whether a key is one of the first so many of a class.
func isOfTheFirst(k pacer.Key, most, class int) bool {
	for n := range most {
		if key(n) == k {
			return n%2 == class
		}
	}
	return false
}

// P18.6: no starvation.

// hungry is a Pacer, and since how many turns each plain key is waiting.
type hungry struct {
	t      *testing.T
	p      *pacer.Pacer
	plains int // the first keys
	turns  map[pacer.Key]int
	most   int // the greatest of them, up to a key's turn
}

func (h *hungry) tick() {
	h.t.Helper()
	x, ok := h.p.Tick()
	for n := range h.plains {
		if k := key(n); k == x.Key || h.p.Pending(k) > 0 {
			h.turns[k]++
		}
	}
	h.most = max(h.most, h.turns[x.Key])
	delete(h.turns, x.Key)
	for k, turns := range h.turns {
		if turns >= (pacer.Burst+1)*h.plains {
			h.t.Errorf("%v waits for %d turns, with %d plain keys", k, turns, h.plains)
		}
	}
	if !ok && len(h.turns) > 0 {
		h.t.Errorf("nobody was selected, and %v wait", h.turns)
	}
}

func starving(t *testing.T, plains, urgents int) *hungry {
	t.Helper()
	p, _ := pacer.New(plains + urgents)
	for n := range plains + urgents {
		p.Know(key(n), min(n/plains, 1))
	}
	return &hungry{t: t, p: p, plains: plains, turns: map[pacer.Key]int{}}
}

// TestPlainKeysAmongUrgentOnes: the urgent keys always wait, and the bound is reached.
func TestPlainKeysAmongUrgentOnes(t *testing.T) {
	for plains := 1; plains < 8; plains++ {
		h := starving(t, plains, 3)
		for n := range plains + 3 {
			h.p.Owe(key(n), 1000)
		}
		for range 300 {
			h.tick()
		}
		if want := 5 * plains; h.most != want {
			t.Errorf("%d plain keys: they waited for up to %d turns, not %d", plains, h.most, want)
		}
	}
}

func TestPlainKeysAmongAnyKeys(t *testing.T) {
	for seed := range uint64(120) {
		s := draws.New(seed)
		plains, urgents := 1+s.Below(5), 1+s.Below(5)
		h := starving(t, plains, urgents)
		for range 500 {
			for range s.Below(3) {
				h.p.Owe(key(s.Below(plains+urgents)), 1+s.Below(8))
			}
			if n := plains + s.Below(urgents); s.Below(9) == 0 {
				h.p.Forget(key(n))
				h.p.Know(key(n), urgent)
			}
			h.tick()
		}
		if t.Failed() {
			t.Fatalf("seed %d: %d plain keys, %d urgent ones", seed, plains, urgents)
		}
	}
}

// P18.7: bound.

// ledger is a Pacer, and what was owed and told of each key since it was known.
type ledger struct {
	t     *testing.T
	p     *pacer.Pacer
	owed  map[pacer.Key]int
	turns map[pacer.Key]int
	told  int
}

func (l *ledger) tick() bool {
	l.t.Helper()
	x, ok := l.p.Tick()
	if ok {
		l.told++
		l.turns[x.Key]++
		if x.N != l.turns[x.Key] || x.N > l.owed[x.Key] {
			l.t.Errorf("%v of %d that were owed, %d turns", x, l.owed[x.Key], l.turns[x.Key])
		}
	}
	return ok
}

func (l *ledger) any(k pacer.Key, s *draws.Source) {
	l.t.Helper()
	switch n := s.Below(9); {
	case n == 0:
		if left, _ := l.p.Forget(k); left != l.owed[k]-l.turns[k] {
			l.t.Errorf("Forget(%v): %d of %d, %d turns", k, left, l.owed[k], l.turns[k])
		}
		delete(l.owed, k)
		delete(l.turns, k)
	case n < 3:
		l.p.Know(k, s.Below(2))
	case n < 6:
		if n = s.Below(6); l.p.Owe(k, n) == api.OK {
			l.owed[k] += n
		}
	}
}

func (l *ledger) hold() {
	l.t.Helper()
	for n := range 8 {
		k := key(n)
		issued, pending := l.p.Issued(k), l.p.Pending(k)
		if issued != l.turns[k] || issued > l.owed[k] || issued+pending != l.owed[k] {
			l.t.Errorf("%v: %d issued, %d pending, %d were owed, %d turns", k, issued, pending, l.owed[k], l.turns[k])
		}
	}
	if l.p.Total() != l.told {
		l.t.Errorf("%d were told, not %d", l.p.Total(), l.told)
	}
}

// TestNoMoreIsIssuedThanOwed: in the end it is just as much.
func TestNoMoreIsIssuedThanOwed(t *testing.T) {
	for seed := range uint64(100) {
		s := draws.New(seed)
		p, _ := pacer.New(6)
		l := &ledger{t: t, p: p, owed: map[pacer.Key]int{}, turns: map[pacer.Key]int{}}
		for range 400 {
			l.any(key(s.Below(8)), s)
			l.tick()
			l.hold()
		}
		for l.tick() {
			l.hold()
		}
		for k, n := range l.owed {
			if p.Issued(k) != n || p.Pending(k) != 0 {
				t.Errorf("%v: %d of %d in the end", k, p.Issued(k), n)
			}
		}
		if t.Failed() {
			t.Fatalf("seed %d", seed)
		}
	}
}
