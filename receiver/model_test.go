package receiver_test

import (
	"bytes"
	"maps"
	"math"
	"slices"
	"testing"

	"nozzle/api"
	"nozzle/draws"
	"nozzle/receiver"
	"nozzle/wire"
)

// conf are settings with what a receiver needs, and nothing else.
func conf(paths, window int) api.Conf { return api.Conf{Paths: paths, Window: window} }

// text is n bytes, which no other seed gives.
func text(seed uint64, n int) []byte {
	out := make([]byte, n)
	for i := range out {
		out[i] = byte(draws.At(seed, i))
	}
	return out
}

// outside are numbers that are far from all that a receiver has.
func outside() []int {
	return []int{math.MinInt, math.MinInt + 1, -1 << 60, -1 << 32, -257, -2, -1, 1 << 21, 1 << 32, 1<<32 + 1, 1<<60 - 1, 1 << 60, 1<<60 + 1, 1 << 62, math.MaxInt - 1, math.MaxInt}
}

// data is a packet of the connection that made makes.
func data(seq, flags int, payload string) api.Packet {
	return api.Packet{Kind: api.Data, Flags: flags, Path: 1, Src: 4, Dst: 2, Conn: 7, Seq: seq, Payload: []byte(payload)}
}

// model does slowly, as the document says it, what a Receiver does: of the layers below it takes nothing.
type model struct {
	c                     api.Conf
	src, dst, conn, class int

	next                     int
	keeps                    map[int]api.Packet
	open                     []byte // of a message that is not whole
	arrived, issued, pending int
	done                     bool
}

func newModel(c api.Conf, src, dst, conn, class int) *model {
	return &model{c: c, src: src, dst: dst, conn: conn, class: class, keeps: map[int]api.Packet{}}
}

func (m *model) fork() *model {
	other := *m
	other.keeps = maps.Clone(m.keeps)
	other.open = slices.Clone(m.open)
	return &other
}

// has tells whether flags have one, as the document says it.
func has(flags, flag int) bool { return flags >= 0 && flags/flag%2 == 1 }

func (m *model) kept() []int { return slices.Sorted(maps.Keys(m.keeps)) }

func (m *model) isPresent(n int) bool {
	_, isKept := m.keeps[n]
	return n < m.next || isKept
}

func (m *model) isInWindow(n int) bool { return m.next <= n && n <= m.next+m.c.Window-1 }

func (m *model) answer(kind api.Kind, p api.Packet) []api.Packet {
	return []api.Packet{{Kind: kind, Path: p.Path, Src: m.dst, Dst: m.src, Conn: m.conn, Seq: p.Seq}}
}

// join adds a part to the open ones, if that can be.
func (m *model) join(p api.Packet) [][]byte {
	if len(p.Payload) == 0 || len(m.open)+len(p.Payload) > 65536 {
		return nil
	}
	m.open = append(slices.Clone(m.open), p.Payload...)
	if !has(p.Flags, 2) {
		return nil
	}
	whole := m.open
	m.open = nil
	return [][]byte{whole}
}

func (m *model) advance() [][]byte {
	var out [][]byte
	for {
		p, ok := m.keeps[m.next]
		if !ok {
			return out
		}
		delete(m.keeps, m.next)
		m.next++
		if has(p.Flags, 4) {
			m.done = true
			m.pending = 0
			clear(m.keeps)
			return out
		}
		out = append(out, m.join(p)...)
	}
}

func (m *model) take(p api.Packet) ([]api.Packet, [][]byte) {
	if p.Kind != api.Data || has(p.Flags, 16) || p.Seq < 0 || p.Seq > 1<<60 {
		return nil, nil
	}
	if m.done || m.isPresent(p.Seq) {
		return m.answer(api.Ack, p), nil
	}
	if !m.isInWindow(p.Seq) {
		return nil, nil
	}
	m.arrived++
	m.pending++
	if has(p.Flags, 8) {
		return m.answer(api.Nack, p), nil
	}
	p.Payload = bytes.Clone(p.Payload)
	m.keeps[p.Seq] = p
	messages := m.advance()
	return m.answer(api.Ack, p), messages
}

func (m *model) issue() (api.Packet, bool) {
	if m.pending == 0 {
		return api.Packet{}, false
	}
	m.pending--
	m.issued++
	return api.Packet{Kind: api.Pull, Path: (m.issued - 1) % m.c.Paths, Src: m.dst, Dst: m.src, Conn: m.conn, Pull: m.issued}, true
}

func (m *model) line() api.Line {
	return api.Line{
		Src: m.src, Dst: m.dst, Conn: m.conn, Class: m.class,
		Next: m.next, Pulled: m.issued, Arrived: m.arrived, Pending: m.pending, Done: m.done,
	}
}

// pair is a Receiver, and the model of it: each call goes to both.
type pair struct {
	t *testing.T
	r *receiver.Receiver
	m *model
}

func made(t *testing.T, paths, window int) *pair {
	t.Helper()
	return madeFor(t, conf(paths, window), 4, 2, 7, 1)
}

func madeFor(t *testing.T, c api.Conf, src, dst, conn, class int) *pair {
	t.Helper()
	r, e := receiver.New(c, src, dst, conn, class)
	if r == nil || e != api.OK {
		t.Fatalf("New(%v, %d, %d, %d, %d): %v, %d", c, src, dst, conn, class, r, e)
	}
	p := &pair{t, r, newModel(c, src, dst, conn, class)}
	p.agree("New")
	return p
}

// fork is a pair of forks.
func (p *pair) fork() *pair {
	p.t.Helper()
	f := p.r.Fork()
	if f == nil {
		p.t.Fatal("Fork: nil")
	}
	other := &pair{p.t, f, p.m.fork()}
	other.agree("Fork")
	return other
}

// agree asks everything that a Receiver tells without changing it.
func (p *pair) agree(what string) {
	p.t.Helper()
	if got, want := p.r.Line(), p.m.line(); got != want {
		p.t.Errorf("%s: Line %+v, not %+v", what, got, want)
	}
	if got := p.r.Kept(); !slices.Equal(got, p.m.kept()) {
		p.t.Errorf("%s: Kept %v, not %v", what, got, p.m.kept())
	}
	if got := p.r.Pending(); got != p.m.pending {
		p.t.Errorf("%s: Pending %d, not %d", what, got, p.m.pending)
	}
	if got := p.r.Done(); got != p.m.done {
		p.t.Errorf("%s: Done %v, not %v", what, got, p.m.done)
	}
}

// sames tells whether messages are equal, byte by byte.
func sames(a, b [][]byte) bool { return slices.EqualFunc(a, b, bytes.Equal) }

func (p *pair) take(x api.Packet) ([]api.Packet, [][]byte) {
	p.t.Helper()
	given := x
	given.Payload = bytes.Clone(x.Payload)
	a, messages := p.r.Take(given)
	wantA, wantM := p.m.take(x)
	if !slices.EqualFunc(a, wantA, wire.Same) || !sames(messages, wantM) {
		p.t.Errorf("Take(%+v): %v, %q, not %v, %q", x, a, messages, wantA, wantM)
	}
	if !wire.Same(given, x) {
		p.t.Errorf("Take made %+v of %+v", given, x)
	}
	for i := range given.Payload { // nothing of it is kept
		given.Payload[i] ^= 255
	}
	p.agree("Take")
	return a, messages
}

// takes takes one packet after the other, and answers the messages as one text, with a bar behind each.
func (p *pair) takes(l ...api.Packet) string {
	p.t.Helper()
	var out []byte
	for _, x := range l {
		_, messages := p.take(x)
		for _, m := range messages {
			out = append(append(out, m...), '|')
		}
	}
	return string(out)
}

func (p *pair) issue() (api.Packet, bool) {
	p.t.Helper()
	got, ok := p.r.Issue()
	want, wantOk := p.m.issue()
	if ok != wantOk || !wire.Same(got, want) {
		p.t.Errorf("Issue: %+v, %v, not %+v, %v", got, ok, want, wantOk)
	}
	p.agree("Issue")
	return got, ok
}

// probe lets forks show what a Receiver does not tell: the pieces that it keeps, and the parts that are open.
func (p *pair) probe() {
	p.t.Helper()
	next := p.m.next
	for _, end := range []int{0, api.End, api.Fin} {
		f := p.fork()
		for n := next; n < next+p.m.c.Window; n++ { // the gaps are filled, so all that is kept comes out
			f.take(data(n, end, "!"))
		}
		f.take(data(f.m.next, api.End, "?"))
		for range 3 {
			f.issue()
		}
		f.take(data(f.m.next, api.Fin, ""))
	}
	p.agree("probed")
}

// are tells whether answers are one of that kind for that number.
func are(l []api.Packet, kind api.Kind, seq int) bool {
	return len(l) == 1 && l[0].Kind == kind && l[0].Seq == seq
}
