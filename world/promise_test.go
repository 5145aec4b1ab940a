package world_test

import (
	"bytes"
	"slices"
	"testing"

	"nozzle/api"
	"nozzle/draws"
	"nozzle/wire"
	"nozzle/world"
)

// flow names a connection.
type flow struct{ src, dst, conn int }

// witness sees a World from outside alone: what its steps told, and what it tells without changing.
type witness struct {
	t        *testing.T
	c        api.Conf
	w        *world.World
	accepted map[flow][][]byte
	lived    map[flow]int // receiving connections that were seen: 1, or 2 once they are gone
	came     map[flow]int // data that goes to its Dst, as often as it arrived
	pulled   map[flow]int // the greatest Pull that arrived
	gone     int          // packets that ports served, and did not keep
	arrived  int          // packets that arrived on account of Serve
	injected int
}

func newWitness(t *testing.T, c api.Conf) *witness {
	t.Helper()
	w, e := world.New(c)
	if e != api.OK {
		t.Fatal(c, e)
	}
	return &witness{t: t, c: c, w: w, accepted: map[flow][][]byte{}, lived: map[flow]int{}, came: map[flow]int{}, pulled: map[flow]int{}}
}

// do lets a step happen, and holds all promises behind it.
func (n *witness) do(s api.Step) api.Told {
	n.t.Helper()
	before := n.pulls()
	told := n.w.Do(s)
	n.note(s, told)
	for id, now := range n.pulls() {
		if most := before[id] + one(s.Op == api.Tick && s.Host == id); now > most {
			n.t.Errorf("%+v: host %d sent %d pulls", s, id, now-before[id])
		}
	}
	n.hold()
	if n.t.Failed() {
		n.t.Fatalf("behind %+v: %+v", s, told)
	}
	return told
}

func one(is bool) int {
	if is {
		return 1
	}
	return 0
}

// pulls is how many each host sent.
func (n *witness) pulls() []int {
	var out []int
	for id := range n.c.Hosts {
		out = append(out, n.w.Counts(id).Pulls)
	}
	return out
}

// note takes what a step told.
func (n *witness) note(s api.Step, told api.Told) {
	switch {
	case told.E == api.OK && s.Op == api.Send:
		k := flow{s.Host, s.Peer, s.Conn}
		n.accepted[k] = append(n.accepted[k], bytes.Clone(s.Bytes))
	case told.E == api.OK && s.Op == api.Serve:
		n.gone += one(s.Fate == api.Deliver || s.Fate == api.Drop)
		n.arrived += told.Arrived
		n.hear(told)
	case s.Op == api.Inject:
		n.injected += told.Arrived
	}
}

// hear takes the packet that arrived, if one did.
func (n *witness) hear(told api.Told) {
	if told.Arrived == 0 {
		return
	}
	x, e := wire.Decode(told.Bytes)
	switch {
	case e != api.OK:
		n.t.Errorf("%v arrived: %d", told.Bytes, e)
	case x.Kind == api.Data && x.Flags&api.Bounced == 0:
		n.came[flow{x.Src, x.Dst, x.Conn}]++
	case x.Kind == api.Pull:
		k := flow{x.Dst, x.Src, x.Conn}
		n.pulled[k] = max(n.pulled[k], x.Pull)
	}
}

func (n *witness) hold() {
	n.t.Helper()
	n.holdMessages()
	receiving := map[flow]api.Line{}
	for id := range n.c.Hosts {
		for _, l := range n.w.Lines(id) {
			if l.Dst == id {
				n.holdReceiving(l)
				receiving[flow{l.Src, l.Dst, l.Conn}] = l
			}
		}
	}
	for id := range n.c.Hosts {
		n.holdHost(id, receiving)
	}
	n.holdLives(receiving)
	n.holdPorts()
}

// holdMessages: P23.4.
func (n *witness) holdMessages() {
	n.t.Helper()
	for k, all := range n.accepted {
		if got := n.w.Accepted(k.src, k.dst, k.conn); !sames(got, all) {
			n.t.Errorf("%v: Accepted %q, not %q", k, got, all)
		}
		got := n.w.Delivered(k.src, k.dst, k.conn)
		if len(got) > len(all) || !sames(got, all[:len(got)]) {
			n.t.Errorf("%v: Delivered %q of %q", k, got, all)
		}
	}
}

// holdReceiving: no more is pulled, nor owed, than arrived.
func (n *witness) holdReceiving(l api.Line) {
	n.t.Helper()
	k := flow{l.Src, l.Dst, l.Conn}
	if l.Pulled+l.Pending > l.Arrived || l.Arrived > n.came[k] || l.Done {
		n.t.Errorf("%+v, and %d packets came", l, n.came[k])
	}
}

// holdHost: what a host sends is pulled, and its tables have their rooms.
func (n *witness) holdHost(id int, receiving map[flow]api.Line) {
	n.t.Helper()
	var to, from [8]int
	for _, l := range n.w.Lines(id) {
		if l.Dst == id {
			from[l.Src]++
			continue
		}
		to[l.Dst]++
		k := flow{l.Src, l.Dst, l.Conn}
		other, ok := receiving[k]
		if l.Spent > l.Pulled || l.Pulled > n.pulled[k] || ok && (l.Pulled > other.Pulled || other.Next > l.Next) {
			n.t.Errorf("%+v, %+v, and %d were pulled", l, other, n.pulled[k])
		}
		if l.Next > n.c.First+l.Spent+l.Timed || l.Next > l.Low+n.c.Window || l.Low > l.Next || l.Next > l.Total || l.Total > l.Low+n.c.Send || l.Done {
			n.t.Errorf("%+v", l)
		}
	}
	if most := max(slices.Max(to[:]), slices.Max(from[:])); most > n.c.Table {
		n.t.Errorf("host %d has %d connections with one", id, most)
	}
}

// holdLives: what is closed is never created again.
func (n *witness) holdLives(receiving map[flow]api.Line) {
	n.t.Helper()
	for k := range receiving {
		if n.lived[k] == 2 {
			n.t.Errorf("%v lives again", k)
		}
		n.lived[k] = 1
	}
	for k := range n.lived {
		if _, ok := receiving[k]; !ok {
			n.lived[k] = 2
		}
	}
}

// holdPorts: queues have their rooms, and each packet that a host returned was put once.
func (n *witness) holdPorts() {
	n.t.Helper()
	total := 0
	for path := range n.c.Paths {
		for id := range n.c.Hosts {
			low, high := n.w.Lens(path, id)
			if low > n.c.Low || high > n.c.High {
				n.t.Errorf("port %d, %d: %d, %d", path, id, low, high)
			}
			total += low + high
		}
	}
	f, sent, arrived := n.w.Fabric(), 0, 0
	for id := range n.c.Hosts {
		sent += n.w.Counts(id).Sent
		arrived += n.w.Counts(id).Arrived
	}
	if sent != f[1]+f[2]+f[3]+f[4] || total != f[1]+f[2]+f[3]-n.gone || f[0] != n.arrived || arrived != n.arrived+n.injected {
		n.t.Errorf("Fabric %v, %d sent, %d wait, %d gone, %d and %d arrived", f, sent, total, n.gone, n.arrived, n.injected)
	}
}

// promisingConf are settings with which much happens, of every kind.
func promisingConf(seed uint64) api.Conf {
	c := confOf(draws.New(seed))
	c.Send += 5
	if seed%2 == 0 { // ports so narrow that they return headers, and lose them
		c.Paths, c.Low, c.High = 1, 1, 1+c.High/4
	}
	return c
}

// P23.4, P23.5: safety and credit.

// TestSafetyAndCredit: after each step of any script without Inject.
func TestSafetyAndCredit(t *testing.T) {
	var fabric [5]int
	delivered, closed, spent := 0, 0, 0
	for seed := range uint64(80) {
		c := promisingConf(seed)
		n, a := newWitness(t, c), newAuthor(c, seed, false)
		for range 1200 {
			a.see(n.do(a.next(n.w)))
		}
		for k := range n.accepted {
			delivered += len(n.w.Delivered(k.src, k.dst, k.conn))
		}
		for _, state := range n.lived {
			closed += state / 2
		}
		for _, pull := range n.pulled {
			spent += pull
		}
		for i, count := range n.w.Fabric() {
			fabric[i] += count
		}
	}
	if delivered < 500 || closed < 50 || spent < 1000 || slices.Min(fabric[:]) < 200 {
		t.Errorf("only %d delivered, %d closed, %d pulled, %v", delivered, closed, spent, fabric)
	}
}

// TestSafetyUnderOneFateAlone: all is lost, or late, or doubled, for a while.
func TestSafetyUnderOneFateAlone(t *testing.T) {
	for fate := api.Deliver; fate <= api.Double; fate++ {
		for seed := range uint64(8) {
			c := promisingConf(seed + 200)
			n, a := newWitness(t, c), newAuthor(c, seed, false)
			for range 400 {
				s := a.next(n.w)
				if s.Fate = fate; a.source.Below(4) == 0 {
					s.Fate = api.Deliver
				}
				a.see(n.do(s))
			}
		}
	}
}

// TestSafetyWhileRealPacketsComeAgain: what ports served may come any number of times more, however late: it adds no credit, and delivers nothing twice.
func TestSafetyWhileRealPacketsComeAgain(t *testing.T) {
	for seed := range uint64(30) {
		c := promisingConf(seed + 300)
		n, a := newWitness(t, c), newAuthor(c, seed, false)
		for range 500 {
			s := a.next(n.w)
			if len(a.heard) > 0 && a.source.Below(4) == 0 {
				b := a.heard[a.source.Below(len(a.heard))]
				x, _ := wire.Decode(b)
				s = api.Step{Op: api.Inject, Host: x.Dst, Bytes: b}
				n.hear(api.Told{Bytes: b, Arrived: 1})
			}
			a.see(n.do(s))
		}
	}
}

// must lets a step happen that is not refused.
func (n *witness) must(s api.Step) api.Told {
	n.t.Helper()
	told := n.do(s)
	if told.E != api.OK {
		n.t.Fatalf("%+v: %+v", s, told)
	}
	return told
}

// drain lets all ports deliver till nothing waits.
func (n *witness) drain() {
	n.t.Helper()
	for range 10000 {
		busy := busyOf(n.w)
		if len(busy) == 0 {
			return
		}
		n.must(api.Step{Op: api.Serve, Path: busy[0][0], Host: busy[0][1], Fate: api.Deliver})
	}
	n.t.Fatalf("something waits without end: %v", busyOf(n.w))
}

// drive is the fair driver of the document: ports serve till nothing waits, then all clocks tick.
func (n *witness) drive(rounds int) {
	n.t.Helper()
	for range rounds {
		n.drain()
		for id := range n.c.Hosts {
			n.do(api.Step{Op: api.Tick, Host: id})
		}
	}
}

// owed is what is not acknowledged.
func (n *witness) owed() int {
	sum := 0
	for id := range n.c.Hosts {
		for _, l := range n.w.Lines(id) {
			if l.Src == id {
				sum += l.Total - l.Low
			}
		}
	}
	return sum
}

// TestDrivenFairlyAllIsDelivered: whatever became of packets before, if headers have room.
func TestDrivenFairlyAllIsDelivered(t *testing.T) {
	for seed := range uint64(25) {
		c := promisingConf(seed + 400)
		c.High, c.Cap, c.Send = 1024, c.Rto+int(seed%7), 6
		n, a := newWitness(t, c), newAuthor(c, seed, false)
		for range 400 {
			a.see(n.do(a.next(n.w)))
		}
		for id := range c.Hosts {
			for _, l := range n.w.Lines(id) {
				n.do(api.Step{Op: api.Close, Host: id, Peer: l.Dst, Conn: l.Conn})
			}
		}
		n.drive((n.owed() + 1) * (c.Cap + 4))
		for k, all := range n.accepted {
			if got := n.w.Delivered(k.src, k.dst, k.conn); !sames(got, all) {
				t.Errorf("seed %d: %v: %q of %q", seed, k, got, all)
			}
		}
		if n.owed() != 0 {
			t.Errorf("seed %d: %d owed", seed, n.owed())
		}
	}
}

// Hostile input.

// foreign are bytes that are no packet for a host.
func (a *author) foreign(host int) []byte {
	x := api.Packet{Kind: api.Data, Flags: api.First, Src: (host + 1) % a.c.Hosts, Dst: host, Conn: 1, Payload: []byte("abc")}
	switch a.source.Below(5) {
	case 0:
		return text(a.source.Next(), a.source.Below(2000))
	case 1:
		x.Src, x.Dst = host, x.Src
	case 2:
		x.Src = 7 // there are never so many hosts
	}
	b, _ := wire.Encode(x)
	switch a.source.Below(3) {
	case 0:
		b = b[:a.source.Below(len(b))]
	default:
		if x.Dst == host && x.Src != 7 {
			b[a.source.Below(len(b))] += byte(1 + a.source.Below(255))
		}
	}
	return b
}

// alike tells whether two worlds are, but for their steps and for what arrived.
func alike(a, b *world.World) bool {
	if a.Fabric() != b.Fabric() || !slices.Equal(busyOf(a), busyOf(b)) {
		return false
	}
	for id := range 8 {
		x, y := a.Counts(id), b.Counts(id)
		for _, c := range []*api.Counts{&x, &y} {
			c.Arrived, c.Bad, c.Wrong = 0, 0, 0
		}
		if x != y || !slices.Equal(a.Lines(id), b.Lines(id)) {
			return false
		}
		for other := range 8 {
			for conn := range 8 {
				if !sames(a.Accepted(id, other, conn), b.Accepted(id, other, conn)) || !sames(a.Delivered(id, other, conn), b.Delivered(id, other, conn)) {
					return false
				}
			}
		}
	}
	return true
}

// TestForeignBytesChangeCountsAlone: from then on a world does as its fork does, which was not given them.
func TestForeignBytesChangeCountsAlone(t *testing.T) {
	for seed := range uint64(20) {
		c := promisingConf(seed + 500)
		w, _ := world.New(c)
		a := newAuthor(c, seed, false)
		for range 8 {
			for range 40 {
				a.see(w.Do(a.next(w)))
			}
			fork := w.Fork()
			for range 12 {
				id := a.source.Below(c.Hosts)
				before := w.Counts(id)
				told := w.Do(api.Step{Op: api.Inject, Host: id, Bytes: a.foreign(id)})
				after := w.Counts(id)
				if told.E == api.OK || told.Arrived != 1 || after.Bad+after.Wrong != before.Bad+before.Wrong+1 || !alike(w, fork) {
					t.Fatalf("seed %d: %+v, %+v, %+v", seed, told, before, after)
				}
			}
			for range 40 {
				s := a.next(fork)
				if x, y := w.Do(s), fork.Do(s); !sameTold(x, y) || !alike(w, fork) {
					t.Fatalf("seed %d: %+v: %+v, not %+v", seed, s, x, y)
				}
			}
		}
	}
}

// P23.6: determinism.

// TestTheSameStepsHaveTheSameResults: in one Run, in several, in a world that was forked on the way, and in its fork.
func TestTheSameStepsHaveTheSameResults(t *testing.T) {
	for seed := range uint64(25) {
		c := promisingConf(seed + 600)
		w, _ := world.New(c)
		a := newAuthor(c, seed, true)
		var steps []api.Step
		var want []api.Told
		for range 400 {
			s := a.next(w)
			told := w.Do(s)
			a.see(told)
			steps, want = append(steps, s), append(want, told)
		}
		for _, cutAt := range []int{0, 1, 57, 200, 399, 400} {
			other, _ := world.New(c)
			got := other.Run(steps[:cutAt]...)
			fork := other.Fork()
			rest := other.Run(steps[cutAt:]...)
			if !slices.EqualFunc(append(got, rest...), want, sameTold) || !alike(other, w) || other.Steps() != 400 {
				t.Fatalf("seed %d, cut at %d: other results", seed, cutAt)
			}
			if !slices.EqualFunc(fork.Run(steps[cutAt:]...), rest, sameTold) || !alike(fork, w) {
				t.Fatalf("seed %d, forked at %d: other results", seed, cutAt)
			}
		}
	}
}

// TestAskingChangesNothing: a world that is asked for all it tells does as one that is not.
func TestAskingChangesNothing(t *testing.T) {
	c := promisingConf(7)
	w, _ := world.New(c)
	silent := w.Fork()
	a := newAuthor(c, 7, true)
	for range 300 {
		s := a.next(w)
		x, y := w.Do(s), silent.Do(s)
		a.see(x)
		if !sameTold(x, y) {
			t.Fatalf("%+v: %+v, not %+v", s, x, y)
		}
		alike(w, w.Fork())
	}
}
