package host_test

import (
	"slices"
	"testing"

	"nozzle/api"
	"nozzle/draws"
	"nozzle/host"
	"nozzle/wire"
)

// flood is a Host that is given anything by anybody, and what was seen of it from outside.
type flood struct {
	t      *testing.T
	c      api.Conf
	id     int
	h      *host.Host
	source *draws.Source
	lived  map[api.Line]int // connections that were seen, by Src, Dst and Conn: 1, or 2 once they are gone
}

func newFlood(t *testing.T, seed uint64) *flood {
	t.Helper()
	s := draws.New(seed)
	c := confOf(s)
	id := s.Below(c.Hosts)
	h, e := host.New(c, id)
	if e != api.OK {
		t.Fatal(c, e)
	}
	return &flood{t: t, c: c, id: id, h: h, source: s, lived: map[api.Line]int{}}
}

func (f *flood) peer() int { return f.source.Below(f.c.Hosts) }

// conn is most often a number near those that there are.
func (f *flood) conn() int {
	most := 0
	for l := range f.lived {
		most = max(most, l.Conn)
	}
	return 1 + f.source.Below(most+3)
}

func (f *flood) packet() api.Packet {
	x := api.Packet{Kind: api.Data, Path: f.source.Below(8), Src: f.peer(), Dst: f.id, Conn: f.conn(), Seq: f.source.Below(3)}
	switch f.source.Below(10) {
	case 0, 1, 2:
		x.Kind = api.Ack
	case 3:
		x.Kind = api.Nack
	case 4:
		x.Kind, x.Seq, x.Pull = api.Pull, 0, f.source.Below(50)
	case 5, 6:
		x.Flags = api.Fin + f.source.Below(2)
	case 7:
		x.Flags = api.Trimmed + f.source.Below(2) + 16*f.source.Below(4)
	default:
		x.Flags, x.Payload = f.source.Below(4)+32*f.source.Below(2), text(f.source.Next(), 1+f.source.Below(9))
	}
	return x
}

// step is any call, and answers what it sent.
func (f *flood) step() []api.Packet {
	switch f.source.Below(12) {
	case 0:
		f.h.Open(f.peer(), f.source.Below(2))
		return nil
	case 1:
		out, _ := f.h.Send(f.peer(), f.conn(), text(f.source.Next(), 1+f.source.Below(9)))
		return out
	case 2:
		out, _ := f.h.Close(f.peer(), f.conn())
		return out
	case 3:
		return f.h.Tick()
	}
	b, _ := wire.Encode(f.packet())
	out, _ := f.h.Arrive(b)
	return out
}

// P21.6: pacing.

func pulls(l []api.Packet) int {
	n := 0
	for _, x := range l {
		if x.Kind == api.Pull {
			n++
		}
	}
	return n
}

// TestNoMoreThanOnePullATick: and none beside the ticks, though a hundred are owed.
func TestNoMoreThanOnePullATick(t *testing.T) {
	seen := 0
	for seed := range uint64(60) {
		f := newFlood(t, seed)
		told := 0
		for range 400 {
			if f.source.Below(6) == 0 {
				n := pulls(f.h.Tick())
				told += n
				if n > 1 {
					t.Fatalf("seed %d: %d pulls a tick", seed, n)
				}
				continue
			}
			before := f.h.Counts().Pulls
			out := f.step()
			if n := pulls(out); n > 1 || n != f.h.Counts().Pulls-before {
				t.Fatalf("seed %d: %d pulls, %+v", seed, n, f.h.Counts())
			}
			told += pulls(out)
			f.hold()
		}
		if f.h.Counts().Pulls != told {
			t.Fatalf("seed %d: %d pulls, %+v", seed, told, f.h.Counts())
		}
		seen += told
	}
	if seen < 300 {
		t.Errorf("only %d pulls", seen)
	}
}

// TestAsManyPullsAsAreOwed: each tick has one as long as one is owed.
func TestAsManyPullsAsAreOwed(t *testing.T) {
	for seed := range uint64(60) {
		f := newFlood(t, seed)
		for range 300 {
			owed := 0
			for _, l := range f.h.Lines() {
				owed += l.Pending
			}
			if n := pulls(f.h.Tick()); n != min(owed, 1) {
				t.Fatalf("seed %d: %d pulls, and %d are owed", seed, n, owed)
			}
			f.step()
			f.step()
		}
	}
}

// P21.7: hostile input.

// foreign are bytes that are no packet for this host.
func (f *flood) foreign() []byte {
	x := f.packet()
	switch f.source.Below(3) {
	case 0:
		x.Dst = (f.id + 1 + f.source.Below(7)) % 8
		if x.Dst == x.Src {
			x.Src = f.id
		}
	case 1:
		if x.Src = 7; f.c.Hosts == 8 {
			return nil
		}
	}
	b, _ := wire.Encode(x)
	if x.Dst == f.id && x.Src != 7 && len(b) > 0 {
		b[f.source.Below(len(b))] += byte(1 + f.source.Below(255))
	}
	return b
}

// alike holds two hosts against each other, but for what arrived.
func alike(a, b *host.Host) bool {
	x, y := a.Counts(), b.Counts()
	for _, c := range []*api.Counts{&x, &y} {
		c.Arrived, c.Bad, c.Wrong = 0, 0, 0
	}
	if x != y || !slices.Equal(a.Lines(), b.Lines()) {
		return false
	}
	for peer := range 8 {
		for conn := range 12 {
			if !sames(a.Accepted(peer, conn), b.Accepted(peer, conn)) || !sames(a.Delivered(peer, conn), b.Delivered(peer, conn)) {
				return false
			}
		}
	}
	return true
}

// TestForeignBytesChangeCountsAlone: one host is given them, and its fork is not; from then on both do the same.
func TestForeignBytesChangeCountsAlone(t *testing.T) {
	for seed := range uint64(40) {
		f := newFlood(t, seed)
		for range 12 {
			for range 20 {
				f.step()
				f.hold()
			}
			fork := &flood{t: t, c: f.c, id: f.id, h: f.h.Fork(), lived: f.lived}
			for range 10 {
				before := f.h.Counts()
				out, e := f.h.Arrive(f.foreign())
				after := f.h.Counts()
				if out != nil || e == api.OK || after.Arrived != before.Arrived+1 || after.Bad+after.Wrong != before.Bad+before.Wrong+1 {
					t.Fatalf("seed %d: %v, %d, %+v, %+v", seed, out, e, before, after)
				}
			}
			fork.source = f.source.Fork()
			for range 20 {
				if !alike(f.h, fork.h) {
					t.Fatalf("seed %d: %+v, not %+v", seed, f.h.Lines(), fork.h.Lines())
				}
				if a, b := f.step(), fork.step(); !slices.EqualFunc(a, b, wire.Same) {
					t.Fatalf("seed %d: %+v, not %+v", seed, a, b)
				}
			}
		}
	}
}

// P21.8: bounds.

// hold holds that there are no more connections than may be, and that none lives again.
func (f *flood) hold() {
	f.t.Helper()
	to, from, here := [8]int{}, [8]int{}, map[api.Line]int{}
	for _, l := range f.h.Lines() {
		if l.Src == f.id {
			to[l.Dst]++
		} else {
			from[l.Src]++
		}
		k := api.Line{Src: l.Src, Dst: l.Dst, Conn: l.Conn}
		here[k]++
		if here[k] > 1 || f.lived[k] == 2 || l.Done {
			f.t.Fatalf("%+v: %d times, was %d", l, here[k], f.lived[k])
		}
		f.lived[k] = 1
	}
	for k := range f.lived {
		if here[k] == 0 {
			f.lived[k] = 2
		}
	}
	if n := max(slices.Max(to[:]), slices.Max(from[:])); n > f.c.Table {
		f.t.Fatalf("%d connections, the table has %d", n, f.c.Table)
	}
}

func TestConnectionsAreBoundAndLiveOnce(t *testing.T) {
	gone, full := 0, 0
	for seed := range uint64(60) {
		f := newFlood(t, seed)
		for range 600 {
			f.step()
			f.hold()
		}
		for _, state := range f.lived {
			gone += state / 2
		}
		full += f.h.Counts().Refused
	}
	if gone < 200 || full < 200 {
		t.Errorf("only %d are gone, and %d were refused", gone, full)
	}
}

// TestTheGreatestTables: of all hosts, both ways, with all that the pacer knows.
func TestTheGreatestTables(t *testing.T) {
	c := with(func(c *api.Conf) { c.Hosts, c.Table = 8, 64 })
	h, _ := host.New(c, 3)
	count := 0
	for peer := range 8 {
		if peer == 3 {
			continue
		}
		for conn := 65; conn >= 1; conn-- {
			b := encoded(t, data(peer, 3, conn, api.First, "x"))
			if _, e := h.Arrive(b); e != api.OK {
				t.Fatal(e)
			}
			if _, e := h.Open(peer, 0); (e == api.OK) != (conn > 1) {
				t.Errorf("Open(%d): %d", peer, e)
			}
			count++
		}
	}
	if n := len(h.Lines()); n != 2*7*64 || h.Counts().Refused != 7 {
		t.Errorf("%d lines, %+v", n, h.Counts())
	}
	turns := map[place]int{}
	for range 7 * 64 {
		out := h.Tick()
		if len(out) != 1 {
			t.Fatalf("Tick %+v", out)
		}
		turns[place{out[0].Dst, out[0].Conn}]++
	}
	if len(turns) != 7*64 || h.Tick() != nil {
		t.Errorf("%d had their turns", len(turns))
	}
}
