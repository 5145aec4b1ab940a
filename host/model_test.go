package host_test

import (
	"bytes"
	"cmp"
	"maps"
	"math"
	"slices"
	"testing"

	"nozzle/api"
	"nozzle/draws"
	"nozzle/host"
	"nozzle/pacer"
	"nozzle/receiver"
	"nozzle/sender"
	"nozzle/wire"
)

// conf are settings under which a few calls reach every edge.
func conf() api.Conf {
	return api.Conf{Hosts: 3, Paths: 2, Mtu: 4, First: 2, Window: 6, Low: 4, High: 9, Weight: 2, Rto: 5, Cap: 20, Rest: 5, Table: 2, Send: 20, Seed: 3}
}

// with is conf with a change.
func with(change func(c *api.Conf)) api.Conf {
	c := conf()
	change(&c)
	return c
}

// outside are numbers that are far from all that a host has.
func outside() []int {
	return []int{math.MinInt, math.MinInt + 1, -1 << 60, -1 << 32, -64, -8, -2, -1, 64, 1 << 20, 1 << 30, 1<<30 + 1, 1 << 31, 1 << 32, 1<<32 + 1, 1 << 60, math.MaxInt - 1, math.MaxInt}
}

// text is n bytes, which no other seed gives.
func text(seed uint64, n int) []byte {
	out := make([]byte, n)
	for i := range out {
		out[i] = byte(draws.At(seed, i))
	}
	return out
}

// place is a connection in one direction.
type place struct{ peer, conn int }

// places are those of a map, in order.
func places[T any](m map[place]T) []place {
	return slices.SortedFunc(maps.Keys(m), func(a, b place) int {
		return cmp.Or(cmp.Compare(a.peer, b.peer), cmp.Compare(a.conn, b.conn))
	})
}

// model does slowly, as the document says it, what a Host does: it has maps alone, and looks through all of them after each call.
type model struct {
	c                   api.Conf
	id                  int
	next                map[int]int
	senders             map[place]*sender.Sender
	receivers           map[place]*receiver.Receiver
	gone, closed        map[place]int // those that were sending, and those that were receiving
	pacer               *pacer.Pacer
	accepted, delivered map[place][][]byte
	counts              api.Counts
}

func newModel(c api.Conf, id int) *model {
	p, _ := pacer.New(512)
	return &model{
		c: c, id: id, next: map[int]int{}, pacer: p,
		senders: map[place]*sender.Sender{}, receivers: map[place]*receiver.Receiver{},
		gone: map[place]int{}, closed: map[place]int{},
		accepted: map[place][][]byte{}, delivered: map[place][][]byte{},
	}
}

func (m *model) fork() *model {
	other := *m
	other.next, other.gone, other.closed = maps.Clone(m.next), maps.Clone(m.gone), maps.Clone(m.closed)
	other.senders, other.receivers = map[place]*sender.Sender{}, map[place]*receiver.Receiver{}
	for k, s := range m.senders {
		other.senders[k] = s.Fork()
	}
	for k, r := range m.receivers {
		other.receivers[k] = r.Fork()
	}
	other.pacer = m.pacer.Fork()
	other.accepted, other.delivered = deep(m.accepted), deep(m.delivered)
	return &other
}

func deep(m map[place][][]byte) map[place][][]byte {
	out := map[place][][]byte{}
	for k, l := range m {
		for _, b := range l {
			out[k] = append(out[k], bytes.Clone(b))
		}
	}
	return out
}

// may tells whether a number may be new, of those that are closed.
func (m *model) may(closed map[place]int, k place) bool {
	floor := 1
	for closed[place{k.peer, floor}] > 0 {
		floor++
	}
	return floor <= k.conn && k.conn <= min(floor+m.c.Table-1, 1<<30) && closed[k] == 0
}

// sweep is what holds after each call.
func (m *model) sweep() {
	for k, s := range m.senders {
		if s.Done() {
			delete(m.senders, k)
			m.gone[k] = 1
		}
	}
	for k, r := range m.receivers {
		if r.Done() {
			delete(m.receivers, k)
			m.closed[k] = 1
			m.pacer.Forget(pacer.Key{Src: k.peer, Conn: k.conn})
		}
	}
}

func (m *model) answer(out []api.Packet) []api.Packet {
	for _, p := range out {
		m.counts.Sent++
		if p.Kind == api.Pull {
			m.counts.Pulls++
		}
	}
	m.sweep()
	return out
}

func (m *model) open(dst, class int) (int, api.Errno) {
	n := m.next[dst] + 1
	switch {
	case dst < 0 || dst > m.c.Hosts-1 || dst == m.id || class != 0 && class != 1:
		return 0, api.ErrRange
	case !m.may(m.gone, place{dst, n}):
		return 0, api.ErrTable
	}
	m.next[dst] = n
	m.senders[place{dst, n}], _ = sender.New(m.c, m.id, dst, n, class)
	return n, api.OK
}

func (m *model) send(dst, conn int, b []byte) ([]api.Packet, api.Errno) {
	k := place{dst, conn}
	s, ok := m.senders[k]
	if !ok {
		return nil, api.ErrNone
	}
	out, e := s.Send(b)
	if e == api.OK {
		m.accepted[k] = append(m.accepted[k], bytes.Clone(b))
	}
	return m.answer(out), e
}

func (m *model) close(dst, conn int) ([]api.Packet, api.Errno) {
	s, ok := m.senders[place{dst, conn}]
	if !ok {
		return nil, api.ErrNone
	}
	out, e := s.Close()
	return m.answer(out), e
}

// has tells whether flags have one, as the document says it.
func has(flags, flag int) bool { return flags >= 0 && flags/flag%2 == 1 }

func (m *model) arrive(b []byte) ([]api.Packet, api.Errno) {
	m.counts.Arrived++
	p, e := wire.Decode(b)
	if e != api.OK {
		m.counts.Bad++
		return nil, e
	}
	if p.Dst != m.id || p.Src > m.c.Hosts-1 {
		m.counts.Wrong++
		return nil, api.ErrHost
	}
	k := place{p.Src, p.Conn}
	if p.Kind == api.Data && !has(p.Flags, 16) {
		return m.answer(m.data(k, p)), api.OK
	}
	if s, ok := m.senders[k]; ok {
		return m.answer(s.Take(p)), api.OK
	}
	m.counts.Stray++
	return nil, api.OK
}

func (m *model) data(k place, p api.Packet) []api.Packet {
	if _, ok := m.receivers[k]; ok {
		return m.take(k, p)
	}
	if m.closed[k] > 0 {
		return []api.Packet{{Kind: api.Ack, Path: p.Path, Src: m.id, Dst: p.Src, Conn: p.Conn, Seq: p.Seq}}
	}
	if has(p.Flags, 1) && m.may(m.closed, k) {
		class := p.Flags / 32 % 2
		m.receivers[k], _ = receiver.New(m.c, p.Src, m.id, p.Conn, class)
		m.pacer.Know(pacer.Key{Src: k.peer, Conn: k.conn}, class)
		return m.take(k, p)
	}
	if has(p.Flags, 1) {
		m.counts.Refused++
	} else {
		m.counts.Stray++
	}
	return nil
}

func (m *model) take(k place, p api.Packet) []api.Packet {
	r := m.receivers[k]
	before := r.Pending()
	out, messages := r.Take(p)
	if r.Pending() > before {
		m.pacer.Owe(pacer.Key{Src: k.peer, Conn: k.conn}, 1)
	}
	m.delivered[k] = append(m.delivered[k], messages...)
	return out
}

func (m *model) tick() []api.Packet {
	var out []api.Packet
	if turn, ok := m.pacer.Tick(); ok {
		p, _ := m.receivers[place{turn.Key.Src, turn.Key.Conn}].Issue()
		out = append(out, p)
	}
	for _, k := range places(m.senders) {
		out = append(out, m.senders[k].Tick()...)
	}
	return m.answer(out)
}

func (m *model) lines() []api.Line {
	var out []api.Line
	for _, k := range places(m.senders) {
		out = append(out, m.senders[k].Line())
	}
	for _, k := range places(m.receivers) {
		out = append(out, m.receivers[k].Line())
	}
	return out
}

// pair is a Host, and the model of it: each call goes to both.
type pair struct {
	t *testing.T
	h *host.Host
	m *model
}

func made(t *testing.T, c api.Conf, id int) *pair {
	t.Helper()
	h, e := host.New(c, id)
	if h == nil || e != api.OK {
		t.Fatalf("New(%+v, %d): %v, %d", c, id, h, e)
	}
	p := &pair{t, h, newModel(c, id)}
	p.agree("New")
	return p
}

// fork is a pair of forks.
func (p *pair) fork() *pair {
	p.t.Helper()
	f := p.h.Fork()
	if f == nil {
		p.t.Fatal("Fork: nil")
	}
	other := &pair{p.t, f, p.m.fork()}
	other.agree("Fork")
	return other
}

// stands holds what a Host tells shortly.
func (p *pair) stands(what string) {
	p.t.Helper()
	if got, want := p.h.Lines(), p.m.lines(); !slices.Equal(got, want) {
		p.t.Errorf("%s: Lines %+v, not %+v", what, got, want)
	}
	if got, want := p.h.Counts(), p.m.counts; got != want {
		p.t.Errorf("%s: Counts %+v, not %+v", what, got, want)
	}
}

// agree asks everything that a Host tells without changing it.
func (p *pair) agree(what string) {
	p.t.Helper()
	p.stands(what)
	for peer := -1; peer < 9; peer++ {
		for conn := -1; conn < 9; conn++ {
			p.messages(what, place{peer, conn})
		}
	}
	for k := range p.m.accepted {
		p.messages(what, k)
	}
	for k := range p.m.delivered {
		p.messages(what, k)
	}
}

// sames tells whether messages are equal, byte by byte.
func sames(a, b [][]byte) bool { return slices.EqualFunc(a, b, bytes.Equal) }

func (p *pair) messages(what string, k place) {
	p.t.Helper()
	if got, want := p.h.Accepted(k.peer, k.conn), p.m.accepted[k]; !sames(got, want) {
		p.t.Errorf("%s: Accepted(%v) %q, not %q", what, k, got, want)
	}
	if got, want := p.h.Delivered(k.peer, k.conn), p.m.delivered[k]; !sames(got, want) {
		p.t.Errorf("%s: Delivered(%v) %q, not %q", what, k, got, want)
	}
}

// same holds what a call answered against what the model did.
func (p *pair) same(what string, got, want []api.Packet, e, wantE api.Errno) {
	p.t.Helper()
	if e != wantE || !slices.EqualFunc(got, want, wire.Same) {
		p.t.Errorf("%s: %+v, %d, not %+v, %d", what, got, e, want, wantE)
	}
	p.stands(what)
}

func (p *pair) open(dst, class int) (int, api.Errno) {
	p.t.Helper()
	got, e := p.h.Open(dst, class)
	if want, wantE := p.m.open(dst, class); got != want || e != wantE {
		p.t.Errorf("Open(%d, %d): %d, %d, not %d, %d", dst, class, got, e, want, wantE)
	}
	p.stands("Open")
	return got, e
}

// spoil changes bytes that were given away, or lent: a Host has nothing of them.
func spoil(b []byte) {
	for i := range b {
		b[i] ^= 255
	}
}

func (p *pair) send(dst, conn int, b []byte) ([]api.Packet, api.Errno) {
	p.t.Helper()
	given := bytes.Clone(b)
	got, e := p.h.Send(dst, conn, given)
	if !bytes.Equal(given, b) {
		p.t.Errorf("Send made %q of %q", given, b)
	}
	spoil(given)
	want, wantE := p.m.send(dst, conn, b)
	p.same("Send", got, want, e, wantE)
	return got, e
}

func (p *pair) close(dst, conn int) ([]api.Packet, api.Errno) {
	p.t.Helper()
	got, e := p.h.Close(dst, conn)
	want, wantE := p.m.close(dst, conn)
	p.same("Close", got, want, e, wantE)
	return got, e
}

func (p *pair) arrive(b []byte) ([]api.Packet, api.Errno) {
	p.t.Helper()
	given := bytes.Clone(b)
	got, e := p.h.Arrive(given)
	if !bytes.Equal(given, b) {
		p.t.Errorf("Arrive made %v of %v", given, b)
	}
	spoil(given)
	want, wantE := p.m.arrive(b)
	p.same("Arrive", got, want, e, wantE)
	return got, e
}

// get lets a packet arrive, which is one for this host.
func (p *pair) get(x api.Packet) []api.Packet {
	p.t.Helper()
	out, e := p.arrive(encoded(p.t, x))
	if e != api.OK {
		p.t.Errorf("Arrive of %+v: %d", x, e)
	}
	return out
}

func encoded(t *testing.T, x api.Packet) []byte {
	t.Helper()
	b, e := wire.Encode(x)
	if e != api.OK {
		t.Fatalf("%+v is no packet: %d", x, e)
	}
	return b
}

func (p *pair) tick() []api.Packet {
	p.t.Helper()
	got, want := p.h.Tick(), p.m.tick()
	p.same("Tick", got, want, api.OK, api.OK)
	return got
}

// ticks lets n ticks go by, and answers what they sent.
func (p *pair) ticks(n int) []api.Packet {
	p.t.Helper()
	var out []api.Packet
	for range n {
		out = append(out, p.tick()...)
	}
	return out
}

// net is some hosts, and what is under way between them.
type net struct {
	hosts  []*pair
	flying []api.Packet
	source *draws.Source
	conns  int // the greatest number that was opened
	bytes  uint64
}

func newNet(t *testing.T, c api.Conf, seed uint64) *net {
	t.Helper()
	n := &net{source: draws.New(seed), bytes: seed << 32}
	for id := range c.Hosts {
		n.hosts = append(n.hosts, made(t, c, id))
	}
	return n
}

// any is one of the hosts.
func (n *net) any() int { return n.source.Below(len(n.hosts)) }

func (n *net) sent(l []api.Packet) { n.flying = append(n.flying, l...) }

// step is anything that may happen: calls that are refused, too.
func (n *net) step() {
	h := n.hosts[n.any()]
	peer, conn := n.any(), n.source.Below(n.conns+2)
	switch what := n.source.Below(20); {
	case what < 2:
		made, _ := h.open(peer, n.source.Below(2))
		n.conns = max(n.conns, made)
	case what < 5:
		n.bytes++
		l, _ := h.send(peer, conn, text(n.bytes, n.source.Below(20)))
		n.sent(l)
	case what < 6:
		l, _ := h.close(peer, conn)
		n.sent(l)
	case what < 9:
		n.sent(h.tick())
	case len(n.flying) > 0:
		n.carry(n.source.Below(len(n.flying)))
	}
}

// carry lets one of the packets under way arrive, or come back, or be lost, or stay also under way.
func (n *net) carry(i int) {
	p := n.flying[i]
	fate := n.source.Below(12)
	if fate != 0 {
		n.flying = slices.Delete(n.flying, i, i+1)
	}
	switch fate {
	case 1:
		return
	case 2:
		p, _ = wire.Trim(p)
	case 3:
		p, _ = wire.Trim(p)
		p, _ = wire.Bounce(p)
	}
	n.sent(n.hosts[p.Dst].get(p))
}

func (n *net) agree(what string) {
	for _, h := range n.hosts {
		h.t.Helper()
		h.agree(what)
	}
}

// drain lets nothing be lost any more, until nobody has anything to send.
func (n *net) drain(rounds int) {
	for range rounds {
		for len(n.flying) > 0 {
			p := n.flying[0]
			n.flying = n.flying[1:]
			n.sent(n.hosts[p.Dst].get(p))
		}
		for _, h := range n.hosts {
			n.sent(h.tick())
		}
	}
}

// confOf are any settings, most of them narrow.
func confOf(s *draws.Source) api.Conf {
	c := conf()
	c.Hosts = 2 + s.Below(3)
	c.Paths = 1 + s.Below(4)
	c.Mtu = 1 + s.Below(8)
	c.Window = 1 + s.Below(8)
	c.First = 1 + s.Below(c.Window)
	c.Rto = 1 + s.Below(6)
	c.Cap = c.Rto + s.Below(20)
	c.Rest = s.Below(8)
	c.Table = 1 + s.Below(4)
	c.Send = 1 + s.Below(20)
	c.Seed = s.Below(1000)
	return c
}

func TestAnyCallsAgree(t *testing.T) {
	for seed := range uint64(60) {
		n := newNet(t, confOf(draws.New(seed)), seed)
		for i := range 500 {
			n.step()
			if i%100 == 99 {
				n.agree("any calls")
			}
			if n.source.Below(40) == 0 {
				id := n.any()
				n.hosts[id] = n.hosts[id].fork()
			}
		}
		if t.Failed() {
			t.Fatalf("seed %d", seed)
		}
	}
}

// TestAllIsDelivered: after whatever happened, when nothing is lost any more.
func TestAllIsDelivered(t *testing.T) {
	for seed := range uint64(20) {
		c := conf()
		c.Table = 1 + int(seed%4)
		n := newNet(t, c, seed)
		for range 300 {
			n.step()
		}
		for _, h := range n.hosts {
			for _, k := range places(h.m.senders) {
				h.close(k.peer, k.conn)
			}
		}
		n.drain(1200)
		for id, h := range n.hosts {
			for peer, other := range n.hosts {
				for conn := range n.conns + 2 {
					if accepted := h.h.Accepted(peer, conn); !sames(accepted, other.h.Delivered(id, conn)) {
						t.Errorf("seed %d: %d to %d, %d: %q delivered of %q", seed, id, peer, conn, other.h.Delivered(id, conn), accepted)
					}
				}
			}
		}
		n.agree("drained")
	}
}

// FuzzHostAgrees holds any calls against the model: also what no other host would send.
func FuzzHostAgrees(f *testing.F) {
	f.Add(uint64(1), []byte{0, 1, 0, 1, 17, 0, 1, 17, 1, 3, 0, 0, 3, 0, 0, 4, 9, 3, 4, 0, 0})
	f.Add(uint64(2), []byte{4, 1, 255, 4, 9, 1, 4, 33, 7, 3, 0, 0, 5, 1, 1, 2, 0, 1, 6, 3, 3})
	f.Fuzz(func(t *testing.T, seed uint64, calls []byte) {
		s := draws.New(seed)
		p := made(t, confOf(s), s.Below(2))
		kept := []*pair{p}
		for i := 0; i+2 < len(calls) && i < 600; i += 3 {
			a, b := int(calls[i+1]), int(calls[i+2])
			switch calls[i] % 7 {
			case 0:
				p.open(a%5-1, b%3)
			case 1:
				p.send(a%4, b%6, text(uint64(i), b/6))
			case 2:
				p.close(a%4, b%6)
			case 3:
				p.tick()
			case 4, 5:
				p.arrive(odd(s, p.m.id, a, b))
			case 6:
				if len(kept) < 4 {
					kept = append(kept, p.fork())
				}
				p = kept[a%len(kept)]
			}
		}
		for _, p := range kept {
			p.agree("fuzz")
		}
	})
}

// odd are the bytes of a packet that no host would send, most often, and of none at times.
func odd(s *draws.Source, id, a, b int) []byte {
	x := api.Packet{Kind: api.Kind(1 + a%4), Path: s.Below(8), Src: (id + 1 + a/4%4) % 8, Dst: id, Conn: 1 + b%6}
	switch x.Kind {
	case api.Data:
		x.Seq, x.Flags = s.Below(10), b&^24
		x.Flags &= 63
		if x.Flags&6 == 6 {
			x.Flags -= 2
		}
		if x.Flags&4 == 0 {
			x.Payload = text(uint64(b), 1+s.Below(5))
		}
		if a/16%3 == 0 {
			x, _ = wire.Trim(x)
		}
		if a/16%6 == 0 {
			x, _ = wire.Bounce(x)
			x.Src, x.Dst = x.Dst, x.Src
		}
	case api.Pull:
		x.Pull = s.Below(30)
	default:
		x.Seq = s.Below(10)
	}
	if a > 250 {
		x.Dst = (id + 5) % 8
	}
	out, _ := wire.Encode(x)
	if b > 250 && len(out) > 0 {
		out[s.Below(len(out))]++
	}
	return out
}
