package sender_test

import (
	"bytes"
	"maps"
	"math"
	"slices"
	"testing"

	"nozzle/api"
	"nozzle/draws"
	"nozzle/sender"
	"nozzle/wire"
)

// conf are settings under which little happens by itself.
func conf() api.Conf {
	return api.Conf{Paths: 3, Mtu: 2, First: 2, Window: 4, Rto: 2, Cap: 8, Rest: 5, Send: 10, Seed: 7}
}

// with is conf with a change.
func with(change func(c *api.Conf)) api.Conf {
	c := conf()
	change(&c)
	return c
}

// text is n bytes, which no other seed gives.
func text(seed uint64, n int) []byte {
	out := make([]byte, n)
	for i := range out {
		out[i] = byte(draws.At(seed, i))
	}
	return out
}

// outside are numbers that are far from all that a sender has.
func outside() []int {
	return []int{math.MinInt, math.MinInt + 1, -1 << 60, -1 << 32, -4096, -2, -1, 1 << 21, 1 << 32, 1<<32 + 1, 1 << 60, 1<<60 + 1, 1 << 62, math.MaxInt - 1, math.MaxInt}
}

// What is counted of a path.
const (
	ofAck = iota
	ofNack
	ofBounce
)

// model does slowly, as the document says it, what a Sender does: of the layers below it takes the random numbers alone.
type model struct {
	c                     api.Conf
	src, dst, conn, class int

	pieces []api.Piece // all that there ever were
	next   int
	acked  map[int]bool
	repeat []int

	pulled, spent, timed int
	closed               bool

	running    bool
	wait, left int

	counts [8][3]int
	rests  [8]int

	source *draws.Source
	list   []int // the paths of the list
	rest   []int // of the round
}

func newModel(c api.Conf, src, dst, conn, class int) *model {
	m := &model{c: c, src: src, dst: dst, conn: conn, class: class, acked: map[int]bool{}, wait: c.Rto}
	m.source = draws.New(draws.Key(c.Seed, src, dst, conn))
	m.list = m.active()
	m.begin()
	return m
}

func (m *model) fork() *model {
	other := *m
	other.pieces = slices.Clone(m.pieces)
	other.acked = maps.Clone(m.acked)
	other.repeat = slices.Clone(m.repeat)
	other.source = m.source.Fork()
	other.list = slices.Clone(m.list)
	other.rest = slices.Clone(m.rest)
	return &other
}

// the queue

func (m *model) total() int { return len(m.pieces) }

func (m *model) low() int {
	for n := range m.next {
		if !m.acked[n] {
			return n
		}
	}
	return m.next
}

func (m *model) isOutstanding(n int) bool { return m.low() <= n && n <= m.next-1 && !m.acked[n] }

// the paths

func (m *model) active() []int {
	var out []int
	for path := range m.c.Paths {
		if m.rests[path] == 0 {
			out = append(out, path)
		}
	}
	return out
}

func (m *model) begin() { m.rest = draws.Shuffle(m.source, m.list) }

// renew is: to update the paths.
func (m *model) renew() {
	if active := m.active(); !slices.Equal(active, m.list) {
		m.list = active
		m.begin()
	}
}

func (m *model) count(path, what int) {
	if path < 0 || path > m.c.Paths-1 {
		return
	}
	m.counts[path][what]++
	l := m.counts[path]
	bad := l[ofNack]+2*l[ofBounce] > l[ofAck]+4
	if what != ofAck && bad && m.c.Rest != 0 && m.rests[path] == 0 && len(m.active()) > 1 {
		m.rests[path] = m.c.Rest
		m.counts[path] = [3]int{}
	}
}

func (m *model) path() int {
	path := m.rest[0]
	m.rest = m.rest[1:]
	if len(m.rest) == 0 {
		m.begin()
		m.counts = [8][3]int{}
	}
	return path
}

// what is emitted

func (m *model) emit(n int) api.Packet {
	piece := m.pieces[n]
	p := api.Packet{Kind: api.Data, Src: m.src, Dst: m.dst, Conn: m.conn, Seq: n, Payload: bytes.Clone(piece.B)}
	for flag, has := range map[int]bool{1: n < m.c.First, 2: piece.End, 4: piece.Fin, 32: m.class == 1} {
		if has {
			p.Flags += flag
		}
	}
	p.Path = m.path()
	return p
}

func (m *model) send() int {
	m.next++
	return m.next - 1
}

func (m *model) allowed() []api.Packet {
	var out []api.Packet
	for m.next < m.total() && m.next < m.c.First {
		out = append(out, m.emit(m.send()))
	}
	for m.spent < m.pulled {
		n := 0
		if len(m.repeat) > 0 {
			n, m.repeat = m.repeat[0], m.repeat[1:]
		} else if m.next < m.total() && m.next < m.low()+m.c.Window {
			n = m.send()
		} else {
			break
		}
		out = append(out, m.emit(n))
		m.spent++
	}
	return out
}

// run is what holds of the timer after each call.
func (m *model) run() {
	on := m.low() < m.total()
	if on && !m.running {
		m.left = m.wait
	}
	m.running = on
}

// the calls

func (m *model) accept(l []api.Piece) ([]api.Packet, api.Errno) {
	if m.total()-m.low()+len(l) > m.c.Send {
		return nil, api.ErrFull
	}
	m.pieces = append(m.pieces, l...)
	out := m.allowed()
	m.run()
	return out, api.OK
}

func (m *model) sendMessage(b []byte) ([]api.Packet, api.Errno) {
	if m.closed {
		return nil, api.ErrClosed
	}
	if len(b) < 1 || len(b) > 65536 {
		return nil, api.ErrCut
	}
	var l []api.Piece
	for part := range slices.Chunk(bytes.Clone(b), m.c.Mtu) {
		l = append(l, api.Piece{B: part})
	}
	l[len(l)-1].End = true
	return m.accept(l)
}

func (m *model) close() ([]api.Packet, api.Errno) {
	if m.closed {
		return nil, api.ErrClosed
	}
	out, e := m.accept([]api.Piece{{Fin: true}})
	m.closed = e == api.OK
	return out, e
}

func (m *model) ack(seq int) {
	if !m.isOutstanding(seq) {
		return
	}
	before := m.low()
	m.acked[seq] = true
	m.repeat = slices.DeleteFunc(slices.Clone(m.repeat), func(n int) bool { return n == seq })
	if m.low() > before {
		m.wait, m.left = m.c.Rto, m.c.Rto
	}
}

func (m *model) again(seq int) {
	m.renew()
	if m.isOutstanding(seq) && !slices.Contains(m.repeat, seq) {
		m.repeat = append(slices.Clone(m.repeat), seq)
	}
}

func (m *model) take(p api.Packet) []api.Packet {
	switch p.Kind {
	case api.Ack:
		m.count(p.Path, ofAck)
		m.ack(p.Seq)
	case api.Nack:
		m.count(p.Path, ofNack)
		m.again(p.Seq)
	case api.Data:
		if p.Flags >= 0 && p.Flags/16%2 == 1 {
			m.count(p.Path, ofBounce)
			m.again(p.Seq)
		}
	case api.Pull:
		if p.Pull > m.pulled {
			m.pulled = p.Pull
		}
	}
	out := m.allowed()
	m.run()
	return out
}

// fires is a tick of the timer.
func (m *model) fires() bool {
	if !m.running {
		return false
	}
	m.left--
	if m.left > 0 {
		return false
	}
	m.wait = min(2*m.wait, m.c.Cap)
	m.left = m.wait
	return true
}

func (m *model) tick() []api.Packet {
	for path := range m.rests {
		m.rests[path] = max(m.rests[path]-1, 0)
	}
	m.renew()
	var out []api.Packet
	if m.fires() {
		if m.low() < m.next {
			out = append(out, m.emit(m.low()))
			m.timed++
		} else if m.next < m.total() && m.next < m.low()+m.c.Window {
			out = append(out, m.emit(m.send()))
			m.timed++
		}
	}
	m.run()
	return out
}

func (m *model) done() bool { return m.closed && m.low() == m.total() }

func (m *model) line() api.Line {
	return api.Line{
		Src: m.src, Dst: m.dst, Conn: m.conn, Class: m.class, Next: m.next, Low: m.low(), Total: m.total(),
		Pulled: m.pulled, Spent: m.spent, Timed: m.timed, Closed: m.closed, Done: m.done(),
	}
}

// pair is a Sender, and the model of it: each call goes to both.
type pair struct {
	t   *testing.T
	s   *sender.Sender
	m   *model
	out []api.Packet // all that was emitted
}

func made(t *testing.T, c api.Conf) *pair {
	t.Helper()
	return madeFor(t, c, 2, 5, 9, 1)
}

func madeFor(t *testing.T, c api.Conf, src, dst, conn, class int) *pair {
	t.Helper()
	s, e := sender.New(c, src, dst, conn, class)
	if s == nil || e != api.OK {
		t.Fatalf("New(%v, %d, %d, %d, %d): %v, %d", c, src, dst, conn, class, s, e)
	}
	return &pair{t: t, s: s, m: newModel(c, src, dst, conn, class)}
}

// loaded is a pair that accepted messages of one piece each, so many of them.
func loaded(t *testing.T, c api.Conf, messages int) *pair {
	t.Helper()
	p := made(t, c)
	for n := range messages {
		p.send(text(uint64(n), c.Mtu))
	}
	return p
}

// fork is a pair of forks, which has emitted as much.
func (p *pair) fork() *pair {
	p.t.Helper()
	f := p.s.Fork()
	if f == nil {
		p.t.Fatal("Fork: nil")
	}
	return &pair{p.t, f, p.m.fork(), slices.Clone(p.out)}
}

// same holds what a call emitted against what the model did, and the Sender against the model.
func (p *pair) same(what string, got, want []api.Packet) []api.Packet {
	p.t.Helper()
	if !slices.EqualFunc(got, want, wire.Same) {
		p.t.Errorf("%s: %v, not %v", what, got, want)
	}
	for _, x := range got {
		if e := wire.Check(x); e != api.OK {
			p.t.Errorf("%s: %v is no packet: %d", what, x, e)
		}
	}
	p.out = append(p.out, want...)
	p.agree(what)
	return got
}

// agree asks everything that a Sender tells without changing it.
func (p *pair) agree(what string) {
	p.t.Helper()
	if got, want := p.s.Line(), p.m.line(); got != want {
		p.t.Errorf("%s: Line %+v, not %+v", what, got, want)
	}
	if got, want := p.s.Done(), p.m.done(); got != want {
		p.t.Errorf("%s: Done %v, not %v", what, got, want)
	}
	if got := p.s.Active(); !slices.Equal(got, p.m.list) {
		p.t.Errorf("%s: Active %v, not %v", what, got, p.m.list)
	}
}

func (p *pair) send(b []byte) ([]api.Packet, api.Errno) {
	p.t.Helper()
	got, e := p.s.Send(b)
	want, wantE := p.m.sendMessage(b)
	if e != wantE {
		p.t.Errorf("Send of %d bytes: %d, not %d", len(b), e, wantE)
	}
	return p.same("Send", got, want), e
}

func (p *pair) close() ([]api.Packet, api.Errno) {
	p.t.Helper()
	got, e := p.s.Close()
	want, wantE := p.m.close()
	if e != wantE {
		p.t.Errorf("Close: %d, not %d", e, wantE)
	}
	return p.same("Close", got, want), e
}

func (p *pair) take(x api.Packet) []api.Packet {
	p.t.Helper()
	return p.same("Take", p.s.Take(x), p.m.take(x))
}

func (p *pair) tick() []api.Packet {
	p.t.Helper()
	return p.same("Tick", p.s.Tick(), p.m.tick())
}

// skip lets n ticks go by, and answers what they emitted.
func (p *pair) skip(n int) []api.Packet {
	p.t.Helper()
	var out []api.Packet
	for range n {
		out = append(out, p.tick()...)
	}
	return out
}

func (p *pair) ack(path, seq int) []api.Packet {
	p.t.Helper()
	return p.take(api.Packet{Kind: api.Ack, Path: path, Seq: seq})
}

func (p *pair) nack(path, seq int) []api.Packet {
	p.t.Helper()
	return p.take(api.Packet{Kind: api.Nack, Path: path, Seq: seq})
}

func (p *pair) bounce(path, seq int) []api.Packet {
	p.t.Helper()
	return p.take(api.Packet{Kind: api.Data, Flags: api.Trimmed + api.Bounced, Path: path, Seq: seq})
}

func (p *pair) pull(n int) []api.Packet {
	p.t.Helper()
	return p.take(api.Packet{Kind: api.Pull, Pull: n})
}

// probe lets forks show what a Sender does not tell: its timer, its repeat list, its pieces, its paths and their counts.
func (p *pair) probe() {
	p.t.Helper()
	slow := p.fork()
	slow.skip(3*min(p.m.c.Cap, 60) + min(p.m.c.Rest, 60))
	quick := p.fork()
	quick.pull(quick.m.spent + 3)
	for range 2 * quick.m.c.Send { // the repeat list, then all that the window has
		quick.pull(quick.m.spent + 2)
		quick.ack(0, quick.m.low())
	}
	for path := range p.m.c.Paths {
		bad := p.fork()
		for range 6 {
			bad.nack(path, -1)
		}
		bad.pull(bad.m.spent + 4)
		bad.skip(3)
	}
	p.agree("probed")
}

// seqs are the numbers of packets.
func seqs(l []api.Packet) []int {
	var out []int
	for _, x := range l {
		out = append(out, x.Seq)
	}
	return out
}

// flags are the flags of packets.
func flags(l []api.Packet) []int {
	var out []int
	for _, x := range l {
		out = append(out, x.Flags)
	}
	return out
}

// are tells whether packets have these numbers, in this order.
func are(l []api.Packet, want ...int) bool { return slices.Equal(seqs(l), want) }
