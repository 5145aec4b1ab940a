package world_test

import (
	"bytes"
	"math"
	"slices"
	"testing"

	"nozzle/api"
	"nozzle/draws"
	"nozzle/fabric"
	"nozzle/host"
	"nozzle/wire"
	"nozzle/world"
)

// conf are settings under which a few steps reach every edge.
func conf() api.Conf {
	return api.Conf{Hosts: 3, Paths: 2, Mtu: 4, First: 2, Window: 6, Low: 4, High: 9, Weight: 2, Rto: 5, Cap: 20, Rest: 5, Table: 2, Send: 20, Seed: 3}
}

// with is conf with a change.
func with(change func(c *api.Conf)) api.Conf {
	c := conf()
	change(&c)
	return c
}

// outside are numbers that are far from all that a world has.
func outside() []int {
	return []int{math.MinInt, math.MinInt + 1, -1 << 60, -1 << 32, -64, -8, -2, -1, 8, 9, 64, 1025, 1 << 20, 1 << 30, 1<<30 + 1, 1 << 31, 1 << 32, 1<<32 + 1, 1 << 60, math.MaxInt - 1, math.MaxInt}
}

// text is n bytes, which no other seed gives.
func text(seed uint64, n int) []byte {
	out := make([]byte, n)
	for i := range out {
		out[i] = byte(draws.At(seed, i))
	}
	return out
}

// spoil changes bytes that were given away, or lent: a World has nothing of them.
func spoil(l ...[]byte) {
	for _, b := range l {
		for i := range b {
			b[i] ^= 255
		}
	}
}

// sames tells whether messages are equal, byte by byte.
func sames(a, b [][]byte) bool { return slices.EqualFunc(a, b, bytes.Equal) }

func sameTold(a, b api.Told) bool {
	return a.E == b.E && a.Conn == b.Conn && a.Arrived == b.Arrived && bytes.Equal(a.Bytes, b.Bytes)
}

// encoded are the bytes of a packet that may be.
func encoded(t *testing.T, x api.Packet) []byte {
	t.Helper()
	b, e := wire.Encode(x)
	if e != api.OK {
		t.Fatalf("%+v is no packet: %d", x, e)
	}
	return b
}

// model does slowly, as the document says it, what a World does: it moves each packet by itself.
type model struct {
	c      api.Conf
	hosts  map[int]*host.Host
	fabric *fabric.Fabric
	steps  int
}

func newModel(c api.Conf) *model {
	m := &model{c: c, hosts: map[int]*host.Host{}}
	for id := range c.Hosts {
		m.hosts[id], _ = host.New(c, id)
	}
	m.fabric, _ = fabric.New(c.Hosts, c.Paths, c.Low, c.High, c.Weight)
	return m
}

func (m *model) fork() *model {
	other := &model{c: m.c, hosts: map[int]*host.Host{}, fabric: m.fabric.Fork(), steps: m.steps}
	for id, h := range m.hosts {
		other.hosts[id] = h.Fork()
	}
	return other
}

func (m *model) put(l []api.Packet) {
	for _, x := range l {
		m.fabric.Put(x)
	}
}

func (m *model) do(s api.Step) api.Told {
	if m.steps == 1<<20 {
		return api.Told{E: 3}
	}
	m.steps++
	if s.Op < 1 || s.Op > 6 {
		return api.Told{E: 230}
	}
	h, ok := m.hosts[s.Host]
	if !ok {
		return api.Told{E: 5}
	}
	return m.act(h, s)
}

func (m *model) act(h *host.Host, s api.Step) api.Told {
	switch s.Op {
	case 1:
		n, e := h.Open(s.Peer, s.Class)
		return api.Told{E: e, Conn: n}
	case 2:
		out, e := h.Send(s.Peer, s.Conn, s.Bytes)
		m.put(out)
		return api.Told{E: e}
	case 3:
		out, e := h.Close(s.Peer, s.Conn)
		m.put(out)
		return api.Told{E: e}
	case 4:
		return m.serve(h, s)
	case 5:
		m.put(h.Tick())
		return api.Told{}
	}
	out, e := h.Arrive(s.Bytes)
	m.put(out)
	return api.Told{E: e, Arrived: 1}
}

func (m *model) serve(h *host.Host, s api.Step) api.Told {
	l, e := m.fabric.Serve(s.Path, s.Host, s.Fate)
	if len(l) == 0 {
		return api.Told{E: e}
	}
	b, _ := wire.Encode(l[0])
	out, _ := h.Arrive(b)
	m.put(out)
	return api.Told{E: e, Bytes: b, Arrived: 1}
}

// places are ports, also some that no world has.
func places(yield func(path, host int) bool) {
	for path := -1; path < 9; path++ {
		for host := -1; host < 9; host++ {
			if !yield(path, host) {
				return
			}
		}
	}
}

// pair is a World, and the model of it: each step happens in both.
type pair struct {
	t *testing.T
	w *world.World
	m *model
}

func made(t *testing.T, c api.Conf) *pair {
	t.Helper()
	w, e := world.New(c)
	if w == nil || e != api.OK {
		t.Fatalf("New(%+v): %v, %d", c, w, e)
	}
	p := &pair{t, w, newModel(c)}
	p.agree("New")
	return p
}

// fork is a pair of forks.
func (p *pair) fork() *pair {
	p.t.Helper()
	f := p.w.Fork()
	if f == nil {
		p.t.Fatal("Fork: nil")
	}
	other := &pair{p.t, f, p.m.fork()}
	other.agree("Fork")
	return other
}

// stands holds what a World tells shortly.
func (p *pair) stands(what string) {
	p.t.Helper()
	if got, want := p.w.Steps(), p.m.steps; got != want {
		p.t.Errorf("%s: Steps %d, not %d", what, got, want)
	}
	if got, want := p.w.Fabric(), p.m.fabric.Counts(); got != want {
		p.t.Errorf("%s: Fabric %v, not %v", what, got, want)
	}
	for id := range p.m.c.Hosts {
		p.hostStands(what, id)
	}
}

// hostStands holds a host's lines and counts: also of a host that there is not.
func (p *pair) hostStands(what string, id int) {
	p.t.Helper()
	lines := p.w.Lines(id)
	if want := p.m.hosts[id].Lines(); !slices.Equal(lines, want) {
		p.t.Errorf("%s: Lines(%d) %+v, not %+v", what, id, lines, want)
	}
	for i := range lines {
		lines[i] = api.Line{Conn: -1}
	}
	if got, want := p.w.Counts(id), p.m.hosts[id].Counts(); got != want {
		p.t.Errorf("%s: Counts(%d) %+v, not %+v", what, id, got, want)
	}
}

// agree asks everything that a World tells without changing it.
func (p *pair) agree(what string) {
	p.t.Helper()
	p.stands(what)
	var busy [][2]int
	for path, id := range places {
		low, high := p.w.Lens(path, id)
		if wantLow, wantHigh := p.m.fabric.Lens(path, id); low != wantLow || high != wantHigh {
			p.t.Errorf("%s: Lens(%d, %d) %d, %d, not %d, %d", what, path, id, low, high, wantLow, wantHigh)
		}
		if low+high > 0 {
			busy = append(busy, [2]int{path, id})
		}
	}
	if got := busyOf(p.w); !slices.Equal(got, busy) {
		p.t.Errorf("%s: Busy %v, not %v", what, got, busy)
	}
	for id := -1; id < 9; id++ {
		p.hostStands(what, id)
		for peer := -1; peer < 9; peer++ {
			for conn := -1; conn < 8; conn++ {
				p.messages(what, id, peer, conn)
			}
		}
	}
}

// busyOf are the ports that have something.
func busyOf(w *world.World) [][2]int {
	var out [][2]int
	for path, id := range w.Busy() {
		out = append(out, [2]int{path, id})
	}
	return out
}

// messages holds those of a connection, and spoils what was told of them.
func (p *pair) messages(what string, src, dst, conn int) {
	p.t.Helper()
	got := p.w.Accepted(src, dst, conn)
	if want := p.m.hosts[src].Accepted(dst, conn); !sames(got, want) {
		p.t.Errorf("%s: Accepted(%d, %d, %d) %q, not %q", what, src, dst, conn, got, want)
	}
	spoil(got...)
	got = p.w.Delivered(src, dst, conn)
	if want := p.m.hosts[dst].Delivered(src, conn); !sames(got, want) {
		p.t.Errorf("%s: Delivered(%d, %d, %d) %q, not %q", what, src, dst, conn, got, want)
	}
	spoil(got...)
}

// do lets a step happen. Neither what it was given nor what it told is the World's.
func (p *pair) do(s api.Step) api.Told {
	p.t.Helper()
	given := bytes.Clone(s.Bytes)
	lent := s
	lent.Bytes = given
	got, want := p.w.Do(lent), p.m.do(s)
	if !sameTold(got, want) {
		p.t.Errorf("Do(%+v): %+v, not %+v", s, got, want)
	}
	if !bytes.Equal(given, s.Bytes) {
		p.t.Errorf("Do(%+v) made %v of its bytes", s, given)
	}
	spoil(given)
	spoil(got.Bytes)
	p.stands("Do")
	return want
}

// confOf are any settings, most of them narrow.
func confOf(s *draws.Source) api.Conf {
	c := conf()
	c.Hosts = 2 + s.Below(3)
	c.Paths = 1 + s.Below(4)
	c.Mtu = 1 + s.Below(8)
	c.Window = 1 + s.Below(8)
	c.First = 1 + s.Below(c.Window)
	c.Low = 1 + s.Below(4)
	c.High = 1 + s.Below(12)
	c.Weight = 1 + s.Below(4)
	c.Rto = 1 + s.Below(6)
	c.Cap = c.Rto + s.Below(20)
	c.Rest = s.Below(8)
	c.Table = 1 + s.Below(4)
	c.Send = 1 + s.Below(20)
	c.Seed = s.Below(1000)
	return c
}

// author writes steps, one by one, as it sees the world stand.
type author struct {
	c       api.Conf
	source  *draws.Source
	hostile bool // it lets bytes in
	losses  int  // so many of 16 packets are not simply delivered
	conns   int  // the greatest number that was opened
	bytes   uint64
	heard   [][]byte // what ports served
}

func newAuthor(c api.Conf, seed uint64, hostile bool) *author {
	s := draws.New(seed + 1<<20)
	return &author{c: c, source: s, hostile: hostile, losses: s.Below(9), bytes: seed << 32}
}

// host is one of those that there are, and one that is not at times.
func (a *author) host() int {
	if a.source.Below(40) == 0 {
		return a.source.Below(11) - 1
	}
	return a.source.Below(a.c.Hosts)
}

func (a *author) fate() api.Fate {
	switch {
	case a.source.Below(60) == 0:
		return api.Fate(a.source.Below(7) - 1)
	case a.source.Below(16) < a.losses:
		return api.Fate(1 + a.source.Below(4))
	}
	return api.Deliver
}

// next is a step that may come next: also one that is refused.
func (a *author) next(w *world.World) api.Step {
	s := api.Step{Host: a.host(), Peer: a.host(), Class: a.source.Below(2), Conn: a.source.Below(a.conns + 2), Path: a.source.Below(a.c.Paths), Fate: a.fate()}
	switch n := a.source.Below(24); {
	case n < 1:
		s.Op = api.Open
		s.Class += a.source.Below(20) / 19
	case n < 4:
		a.bytes++
		s.Op, s.Bytes = api.Send, text(a.bytes, a.source.Below(16))
	case n < 5 && a.source.Below(3) == 0:
		s.Op = api.Close
	case n < 9:
		s.Op = api.Tick
	case n < 10 && a.hostile:
		s.Op, s.Bytes = api.Inject, a.injected(s.Host)
	case n < 11 && a.source.Below(10) == 0:
		s.Op = api.Op(a.source.Below(9) - 1)
	default:
		a.aim(&s, w)
	}
	return s
}

// aim lets a step serve a port that has something, if there is one.
func (a *author) aim(s *api.Step, w *world.World) {
	s.Op = api.Serve
	busy := busyOf(w)
	if len(busy) > 0 && a.source.Below(30) > 0 {
		at := busy[a.source.Below(len(busy))]
		s.Path, s.Host = at[0], at[1]
	}
}

// injected are bytes that were heard before, or changed, or those of a forged packet.
func (a *author) injected(host int) []byte {
	switch n := a.source.Below(4); {
	case n == 0:
		return text(a.source.Next(), a.source.Below(50))
	case n < 3 && len(a.heard) > 0:
		b := bytes.Clone(a.heard[a.source.Below(len(a.heard))])
		if n == 2 {
			b[a.source.Below(len(b))] ^= byte(1 + a.source.Below(255))
		}
		return b
	}
	x := api.Packet{Kind: api.Kind(1 + a.source.Below(4)), Path: a.source.Below(8), Src: a.source.Below(a.c.Hosts + 1), Dst: host, Conn: 1 + a.source.Below(a.conns+3)}
	if x.Kind == api.Pull {
		x.Pull = a.source.Below(30)
	} else {
		x.Seq = a.source.Below(10)
	}
	if x.Kind == api.Data {
		x.Flags, x.Payload = a.source.Below(4)+32*a.source.Below(2), text(a.source.Next(), 1+a.source.Below(5))
	}
	b, _ := wire.Encode(x)
	return b
}

// see takes what came of a step, as the next ones depend on it.
func (a *author) see(told api.Told) {
	a.conns = max(a.conns, told.Conn)
	if len(told.Bytes) > 0 && len(a.heard) < 200 {
		a.heard = append(a.heard, told.Bytes)
	}
}

func TestAnyStepsAgree(t *testing.T) {
	for seed := range uint64(60) {
		c := confOf(draws.New(seed))
		p, a := made(t, c), newAuthor(c, seed, true)
		for i := range 500 {
			a.see(p.do(a.next(p.w)))
			if i%100 == 99 {
				p.agree("any steps")
			}
			if a.source.Below(60) == 0 {
				p = p.fork()
			}
		}
		if t.Failed() {
			t.Fatalf("seed %d: %+v", seed, c)
		}
	}
}

// FuzzWorldAgrees holds any steps against the model, and forks that go their own ways.
func FuzzWorldAgrees(f *testing.F) {
	f.Add(uint64(1), []byte{1, 0, 1, 2, 0, 73, 4, 1, 0, 4, 9, 0, 5, 1, 0, 3, 0, 1})
	f.Add(uint64(2), []byte{1, 1, 32, 2, 1, 74, 7, 0, 0, 4, 0, 3, 6, 0, 5, 7, 1, 1, 0, 0, 0, 5, 200, 9})
	f.Fuzz(func(t *testing.T, seed uint64, steps []byte) {
		s := draws.New(seed)
		c := confOf(s)
		a := newAuthor(c, seed, true)
		kept := []*pair{made(t, c)}
		p := kept[0]
		for i := 0; i+2 < len(steps) && i < 900; i += 3 {
			x, y := int(steps[i+1]), int(steps[i+2])
			if steps[i]%9 == 8 {
				if len(kept) < 4 {
					kept = append(kept, p.fork())
				}
				p = kept[x%len(kept)]
				continue
			}
			step := api.Step{Op: api.Op(steps[i] % 8), Host: x%(c.Hosts+1) - x/250, Peer: y % (c.Hosts + 1), Class: y / 32 % 3, Conn: y / 16 % 5, Path: x / 16 % (c.Paths + 1), Fate: api.Fate(y % 6)}
			switch step.Op {
			case api.Send:
				step.Bytes = text(uint64(i), y%20)
			case api.Inject:
				step.Bytes = a.injected(step.Host)
			case api.Inject + 1:
				a.aim(&step, p.w)
			}
			a.see(p.do(step))
		}
		for _, p := range kept {
			p.agree("fuzz")
		}
	})
}
