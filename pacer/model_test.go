package pacer_test

import (
	"cmp"
	"math"
	"slices"
	"testing"

	"nozzle/api"
	"nozzle/draws"
	"nozzle/pacer"
)

const (
	plain  = 0
	urgent = 1
)

// key is the n-th key, from 0 on: neighbours have another Src.
func key(n int) pacer.Key { return pacer.Key{Src: n % 8, Conn: 1 + n/8} }

// notKeys are keys that are not valid.
func notKeys() []pacer.Key {
	var out []pacer.Key
	for _, src := range []int{math.MinInt, -1 << 32, -8, -1, 8, 9, 64, 1 << 32, math.MaxInt} {
		out = append(out, pacer.Key{Src: src, Conn: 1}, pacer.Key{Src: src, Conn: 1 << 30}, pacer.Key{Src: src})
	}
	for _, conn := range []int{math.MinInt, -1 << 30, -1, 0, 1<<30 + 1, 1 << 31, 1<<32 + 1, 1 << 60, math.MaxInt} {
		out = append(out, pacer.Key{Src: 0, Conn: conn}, pacer.Key{Src: 7, Conn: conn})
	}
	return out
}

// notClasses are numbers that are no class.
func notClasses() []int { return []int{math.MinInt, -2, -1, 2, 3, 1 << 32, 1<<32 + 1, math.MaxInt} }

// notMade are Pacers that neither New nor Fork made.
func notMade() map[string]*pacer.Pacer {
	other, _ := pacer.New(5) // a Pacer elsewhere makes nothing of these
	other.Know(key(0), urgent)
	other.Owe(key(0), 3)
	other.Tick()
	var zero pacer.Pacer
	var none *pacer.Pacer
	refused, _ := pacer.New(0)
	return map[string]*pacer.Pacer{"nil": nil, "zero": {}, "new": new(pacer.Pacer), "refused": refused, "its fork": zero.Fork(), "fork of nil": none.Fork()}
}

// known is a key that the model has. What it is owed is never taken off: its turns are counted.
type known struct {
	key   pacer.Key
	class int
	owed  int
	turns int
	since int // when it came to the end of its queue
}

// turn is one that the model made.
type turn struct {
	class  int
	waited bool // a plain key was waiting when it began
}

// model does slowly, as the document says it, what a Pacer does: it has no queues, and keeps all turns.
type model struct {
	most  int
	keys  []known
	turns []turn
	now   int // how often a key came to the end of a queue
}

func (m *model) place(k pacer.Key) int {
	return slices.IndexFunc(m.keys, func(x known) bool { return x.key == k })
}

func isValid(k pacer.Key) bool { return k.Src >= 0 && k.Src <= 7 && k.Conn >= 1 && k.Conn <= 1<<30 }

func (m *model) know(k pacer.Key, class int) api.Errno {
	switch {
	case !isValid(k) || class != 0 && class != 1:
		return api.ErrArg
	case m.place(k) >= 0:
		return api.ErrPacer
	case len(m.keys) == m.most:
		return api.ErrMany
	}
	m.keys = append(m.keys, known{key: k, class: class})
	return api.OK
}

func (m *model) toTheEnd(i int) {
	m.now++
	m.keys[i].since = m.now
}

func (m *model) owe(k pacer.Key, n int) api.Errno {
	i := m.place(k)
	switch {
	case i < 0:
		return api.ErrNone
	case n < 1:
		return api.ErrArg
	case m.pending(k) > 1<<60-min(n, 1<<60) || n > 1<<60:
		return api.ErrRange
	}
	if m.pending(k) == 0 {
		m.toTheEnd(i)
	}
	m.keys[i].owed += n
	return api.OK
}

func (m *model) forget(k pacer.Key) (int, bool) {
	i := m.place(k)
	if i < 0 {
		return 0, false
	}
	n := m.pending(k)
	m.keys = slices.Delete(slices.Clone(m.keys), i, i+1)
	return n, true
}

func (m *model) pending(k pacer.Key) int {
	if i := m.place(k); i >= 0 {
		return m.keys[i].owed - m.keys[i].turns
	}
	return 0
}

func (m *model) issued(k pacer.Key) int {
	if i := m.place(k); i >= 0 {
		return m.keys[i].turns
	}
	return 0
}

func (m *model) queue(class int) []pacer.Key {
	var waiting []known
	for _, x := range m.keys {
		if x.class == class && m.pending(x.key) > 0 {
			waiting = append(waiting, x)
		}
	}
	slices.SortFunc(waiting, func(a, b known) int { return cmp.Compare(a.since, b.since) })
	var out []pacer.Key
	for _, x := range waiting {
		out = append(out, x.key)
	}
	return out
}

// run is how many urgent turns there were at last at whose beginning a plain key was waiting.
func (m *model) run() int {
	n := 0
	for _, x := range slices.Backward(m.turns) {
		if x.class != urgent || !x.waited {
			break
		}
		n++
	}
	return n
}

func (m *model) tick() (pacer.Pull, bool) {
	plains, urgents := m.queue(plain), m.queue(urgent)
	var k pacer.Key
	switch {
	case len(plains) > 0 && (len(urgents) == 0 || m.run() >= 4):
		k = plains[0]
	case len(urgents) > 0:
		k = urgents[0]
	default:
		return pacer.Pull{}, false
	}
	i := m.place(k)
	m.keys[i].turns++
	m.toTheEnd(i)
	m.turns = append(m.turns, turn{m.keys[i].class, len(plains) > 0})
	return pacer.Pull{Key: k, N: m.keys[i].turns}, true
}

func (m *model) fork() *model {
	return &model{m.most, slices.Clone(m.keys), slices.Clone(m.turns), m.now}
}

// pair is a Pacer, and the model of it: each call goes to both.
type pair struct {
	t *testing.T
	p *pacer.Pacer
	m *model
}

func made(t *testing.T, most int) *pair {
	t.Helper()
	p, e := pacer.New(most)
	if p == nil || e != api.OK {
		t.Fatalf("New(%d): %v, %d", most, p, e)
	}
	return &pair{t, p, &model{most: most}}
}

// waiting is a pair that has these keys, of plain ones first, each of which is owed so many pulls.
func waiting(t *testing.T, plains, urgents, owed int) *pair {
	t.Helper()
	p := made(t, plains+urgents+1)
	for n := range plains + urgents {
		class := plain
		if n >= plains {
			class = urgent
		}
		p.know(key(n), class)
		if owed > 0 {
			p.owe(key(n), owed)
		}
	}
	return p
}

func (p *pair) know(k pacer.Key, class int) api.Errno {
	p.t.Helper()
	got, want := p.p.Know(k, class), p.m.know(k, class)
	if got != want {
		p.t.Errorf("Know(%v, %d): %d, not %d", k, class, got, want)
	}
	return got
}

func (p *pair) owe(k pacer.Key, n int) api.Errno {
	p.t.Helper()
	got, want := p.p.Owe(k, n), p.m.owe(k, n)
	if got != want {
		p.t.Errorf("Owe(%v, %d): %d, not %d", k, n, got, want)
	}
	return got
}

func (p *pair) forget(k pacer.Key) (int, bool) {
	p.t.Helper()
	got, ok := p.p.Forget(k)
	if want, wantOK := p.m.forget(k); got != want || ok != wantOK {
		p.t.Errorf("Forget(%v): %d, %v, not %d, %v", k, got, ok, want, wantOK)
	}
	return got, ok
}

func (p *pair) tick() (pacer.Pull, bool) {
	p.t.Helper()
	got, ok := p.p.Tick()
	if want, wantOK := p.m.tick(); got != want || ok != wantOK {
		p.t.Errorf("Tick: %v, %v, not %v, %v", got, ok, want, wantOK)
	}
	return got, ok
}

// ticks are the keys of so many turns.
func (p *pair) ticks(n int) []pacer.Key {
	p.t.Helper()
	var out []pacer.Key
	for range n {
		x, ok := p.tick()
		if !ok {
			break
		}
		out = append(out, x.Key)
	}
	return out
}

func (p *pair) fork() *pair {
	p.t.Helper()
	f := p.p.Fork()
	if f == nil {
		p.t.Fatal("Fork: nil")
	}
	return &pair{p.t, f, p.m.fork()}
}

// agree asks everything that a Pacer tells without changing it.
func (p *pair) agree(what string) {
	p.t.Helper()
	if p.p.Len() != len(p.m.keys) || p.p.Total() != len(p.m.turns) {
		p.t.Errorf("%s: Len %d, Total %d, not %d, %d", what, p.p.Len(), p.p.Total(), len(p.m.keys), len(p.m.turns))
	}
	for class := -1; class < 4; class++ {
		if got, want := p.p.Queue(class), p.m.queue(class); !slices.Equal(got, want) {
			p.t.Errorf("%s: Queue(%d) %v, not %v", what, class, got, want)
		}
	}
	for _, x := range p.m.keys {
		p.number(what, x.key)
	}
	for n := range 4 {
		p.number(what, key(n))
	}
}

func (p *pair) number(what string, k pacer.Key) {
	p.t.Helper()
	if got, want := [2]int{p.p.Pending(k), p.p.Issued(k)}, [2]int{p.m.pending(k), p.m.issued(k)}; got != want {
		p.t.Errorf("%s: %v pending and issued %v, not %v", what, k, got, want)
	}
}

// does calls one of a Pacer's calls, with one of the first keys.
func (p *pair) does(what, x int) {
	p.t.Helper()
	k := key(x % 7)
	switch what % 8 {
	case 0:
		p.know(k, x/7%2)
	case 1:
		p.owe(k, 1)
	case 2:
		p.owe(k, x/7%12)
	case 3:
		if x%5 == 0 { // or few keys would ever wait for long
			p.forget(k)
		}
	case 4, 5, 6, 7:
		p.tick()
	}
}

func TestAnyCallsAgree(t *testing.T) {
	for seed := range uint64(200) {
		s := draws.New(seed)
		p := made(t, 1+s.Below(8))
		for range 300 {
			before := p
			if s.Below(20) == 0 {
				p = p.fork()
			}
			p.does(s.Below(8), s.Below(1000))
			p.agree("any calls")
			if p != before {
				before.agree("any calls to its fork")
			}
		}
		if t.Failed() {
			t.Fatalf("seed %d", seed)
		}
	}
}

// TestAllFewCallsAgree does each row of a few calls with a key of each class.
func TestAllFewCallsAgree(t *testing.T) {
	calls := []func(p *pair){
		func(p *pair) { p.owe(key(0), 1) },
		func(p *pair) { p.owe(key(1), 2) },
		func(p *pair) { p.owe(key(2), 6) },
		func(p *pair) { p.tick() },
		func(p *pair) { p.forget(key(0)); p.know(key(0), plain) },
		func(p *pair) { p.forget(key(2)); p.know(key(2), urgent) },
	}
	const length = 5
	count := 1
	for range length {
		count *= len(calls)
	}
	for row := range count {
		p := waiting(t, 2, 1, 0)
		for rest, i := row, 0; i < length; rest, i = rest/len(calls), i+1 {
			calls[rest%len(calls)](p)
		}
		p.ticks(12)
		p.agree("few calls")
		if t.Failed() {
			t.Fatalf("row %d", row)
		}
	}
}

// TestManyKeys has as many keys as there may be.
func TestManyKeys(t *testing.T) {
	p := made(t, 512)
	s := draws.New(3)
	for n := range 512 {
		p.know(key(n), n%3%2)
	}
	for range 1500 {
		k := key(s.Below(512))
		switch s.Below(9) {
		case 0:
			if n, _ := p.forget(k); n%2 == 0 {
				p.know(k, n/2%2)
			}
		case 1, 2, 3, 4:
			p.owe(k, 1+s.Below(3))
		default:
			p.tick()
		}
	}
	p.agree("many keys")
	for range 50 {
		p.tick()
	}
	p.agree("many turns")
}

// FuzzPacerAgrees holds any calls against the model.
func FuzzPacerAgrees(f *testing.F) {
	f.Add(byte(3), []byte{0, 0, 0, 8, 1, 0, 2, 71, 4, 0, 4, 0, 4, 0, 4, 0, 4, 0, 4, 0})
	f.Add(byte(0), []byte{0, 0, 0, 1, 1, 0, 3, 0, 0, 1, 1, 1, 4, 0})
	f.Add(byte(6), []byte{0, 7, 0, 1, 2, 77, 2, 71, 4, 0, 4, 0, 8, 0, 4, 0, 4, 0, 3, 15, 4, 0, 0, 1, 2, 71, 4, 0, 8, 1, 4, 0})
	f.Fuzz(func(t *testing.T, most byte, calls []byte) {
		p := made(t, int(most)%8+1)
		kept := []*pair{p}
		for i := 0; i+1 < len(calls) && i < 400; i += 2 {
			if calls[i]%9 == 8 && len(kept) < 5 {
				kept = append(kept, p.fork())
				p = kept[int(calls[i+1])%len(kept)]
				continue
			}
			p.does(int(calls[i]%9), int(calls[i+1]))
		}
		for _, p := range kept {
			p.agree("fuzz")
		}
	})
}
