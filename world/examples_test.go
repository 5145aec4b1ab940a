package world_test

import (
	"slices"
	"testing"

	"nozzle/api"
	"nozzle/wire"
)

// The document's ten examples of the whole: host 0 sends to host 1.

// stage is a witness, and the steps of the examples in short.
type stage struct{ *witness }

func staged(t *testing.T, change func(c *api.Conf)) stage {
	t.Helper()
	return stage{newWitness(t, with(change))}
}

// send opens the next connection, whose number that is, and sends a message.
func (s stage) send(conn int, m string) {
	s.t.Helper()
	if told := s.must(api.Step{Op: api.Open, Host: 0, Peer: 1}); told.Conn != conn {
		s.t.Fatalf("connection %d, not %d", told.Conn, conn)
	}
	s.must(api.Step{Op: api.Send, Host: 0, Peer: 1, Conn: conn, Bytes: []byte(m)})
}

func (s stage) close(conn int) {
	s.t.Helper()
	s.must(api.Step{Op: api.Close, Host: 0, Peer: 1, Conn: conn})
}

// tick lets the clock of a host tick n times.
func (s stage) tick(host, n int) {
	s.t.Helper()
	for range n {
		s.must(api.Step{Op: api.Tick, Host: host})
	}
}

// gets lets a port deliver, and holds the packet that arrives against its kind, flags and number: the Seq, or the Pull.
func (s stage) gets(path, host int, fate api.Fate, kind api.Kind, flags, n int) {
	s.t.Helper()
	told := s.must(api.Step{Op: api.Serve, Path: path, Host: host, Fate: fate})
	x, e := wire.Decode(told.Bytes)
	if e != api.OK || x.Kind != kind || x.Flags != flags || x.Seq+x.Pull != n {
		s.t.Fatalf("%+v, %d, not %d with %d and %d", x, e, kind, flags, n)
	}
}

// loses lets a port drop n packets.
func (s stage) loses(path, host, n int) {
	s.t.Helper()
	for range n {
		s.must(api.Step{Op: api.Serve, Path: path, Host: host, Fate: api.Drop})
	}
}

// waits holds how many packets a port has.
func (s stage) waits(path, host, low, high int) {
	s.t.Helper()
	if l, h := s.w.Lens(path, host); l != low || h != high {
		s.t.Fatalf("port %d, %d: %d, %d, not %d, %d", path, host, l, h, low, high)
	}
}

// has holds the messages that were delivered of a connection.
func (s stage) has(conn int, want ...string) {
	s.t.Helper()
	var got []string
	for _, m := range s.w.Delivered(0, 1, conn) {
		got = append(got, string(m))
	}
	if !slices.Equal(got, want) {
		s.t.Fatalf("%q, not %q", got, want)
	}
}

// line is that of host 0's only connection, or that of host 1's.
func (s stage) line(host int) api.Line {
	s.t.Helper()
	l := s.w.Lines(host)
	if len(l) != 1 {
		s.t.Fatalf("%+v", l)
	}
	return l[0]
}

func TestExample1ThreePieces(t *testing.T) {
	s := staged(t, func(c *api.Conf) { c.Paths = 1 })
	s.send(1, "abcdefghijkl")
	s.waits(0, 1, 2, 0)
	s.drain()
	s.has(1)
	s.waits(0, 1, 0, 0)
	s.tick(1, 1)
	s.gets(0, 0, api.Deliver, api.Pull, 0, 1)
	s.gets(0, 1, api.Deliver, api.Data, api.End, 2)
	s.has(1, "abcdefghijkl")
}

func TestExample2TheSecondPieceOfAPortIsTrimmed(t *testing.T) {
	s := staged(t, func(c *api.Conf) { c.First, c.Low = 3, 1 })
	s.send(1, "abcdefghijkl")
	path := 0 // of the third piece, which is the second one of its port
	if _, high := s.w.Lens(1, 1); high > 0 {
		path = 1
	}
	s.waits(path, 1, 1, 1)
	s.waits(1-path, 1, 1, 0)
	s.gets(path, 1, api.Deliver, api.Data, api.First+api.End+api.Trimmed, 2)
	s.gets(path, 0, api.Deliver, api.Nack, 0, 2)
	s.drain()
	s.has(1)
	s.tick(1, 1)
	s.gets(0, 0, api.Deliver, api.Pull, 0, 1)
	s.waits(path, 1, 0, 0)
	s.gets(1-path, 1, api.Deliver, api.Data, api.First+api.End, 2)
	s.has(1, "abcdefghijkl")
}

func TestExample3ReturnedToTheSender(t *testing.T) {
	s := staged(t, func(c *api.Conf) { c.Paths, c.First, c.Low, c.High = 1, 3, 1, 1 })
	s.send(1, "abcdefghijkl")
	s.waits(0, 1, 1, 1)
	s.waits(0, 0, 0, 1)
	s.gets(0, 0, api.Deliver, api.Data, api.First+api.End+api.Trimmed+api.Bounced, 2)
	s.gets(0, 1, api.Deliver, api.Data, api.First+api.Trimmed, 1)
	s.gets(0, 0, api.Deliver, api.Nack, 0, 1)
	s.gets(0, 1, api.Deliver, api.Data, api.First, 0)
	s.gets(0, 0, api.Deliver, api.Ack, 0, 0)
	s.waits(0, 1, 0, 0) // it has no credit yet
	s.tick(1, 1)
	s.gets(0, 0, api.Deliver, api.Pull, 0, 1)
	s.gets(0, 1, api.Deliver, api.Data, api.First+api.End, 2)
	s.drain()
	s.tick(1, 1)
	s.gets(0, 0, api.Deliver, api.Pull, 0, 2)
	s.gets(0, 1, api.Deliver, api.Data, api.First, 1)
	s.has(1, "abcdefghijkl")
}

func TestExample4APullIsLost(t *testing.T) {
	s := staged(t, func(c *api.Conf) { c.Paths = 1 })
	s.send(1, "abcdefghijklmnop")
	s.drain()
	s.tick(1, 1)
	s.loses(0, 0, 1)
	s.tick(1, 1)
	s.gets(0, 0, api.Deliver, api.Pull, 0, 2)
	if l := s.line(0); l.Pulled != 2 || l.Spent != 2 || l.Next != 4 {
		t.Errorf("%+v", l)
	}
	s.drain()
	s.has(1, "abcdefghijklmnop")
}

func TestExample5AllIsLost(t *testing.T) {
	s := staged(t, func(c *api.Conf) { c.Paths = 1 })
	s.send(1, "abcdefgh")
	s.loses(0, 1, 2)
	s.tick(0, 4)
	s.waits(0, 1, 0, 0)
	s.tick(0, 1)
	s.waits(0, 1, 1, 0)
	s.gets(0, 1, api.Deliver, api.Data, api.First, 0)
	s.gets(0, 0, api.Deliver, api.Ack, 0, 0)
	s.tick(0, 4)
	s.waits(0, 1, 0, 0)
	s.tick(0, 1)
	s.gets(0, 1, api.Deliver, api.Data, api.First+api.End, 1)
	s.has(1, "abcdefgh")
}

func TestExample6APacketArrivesTwice(t *testing.T) {
	s := staged(t, func(c *api.Conf) { c.Paths = 1 })
	s.send(1, "ab")
	s.gets(0, 1, api.Double, api.Data, api.First+api.End, 0)
	s.gets(0, 1, api.Deliver, api.Data, api.First+api.End, 0)
	s.has(1, "ab")
	if l := s.line(1); l.Arrived != 1 || l.Pending != 1 || l.Next != 1 {
		t.Errorf("%+v", l)
	}
	s.gets(0, 0, api.Deliver, api.Ack, 0, 0)
	s.gets(0, 0, api.Deliver, api.Ack, 0, 0)
	s.waits(0, 0, 0, 0)
}

func TestExample7FinArrivesAheadOfAPiece(t *testing.T) {
	s := staged(t, func(c *api.Conf) { c.Paths = 1 })
	s.send(1, "ab")
	s.close(1)
	s.gets(0, 1, api.Deliver, api.Data, api.First+api.Fin, 1)
	s.has(1)
	if l := s.line(1); l.Next != 0 || l.Done {
		t.Errorf("%+v", l)
	}
	s.gets(0, 1, api.Deliver, api.Data, api.First+api.End, 0)
	s.has(1, "ab")
	if l := s.w.Lines(1); len(l) != 0 {
		t.Errorf("%+v", l)
	}
	s.tick(1, 3) // nothing is pulled any more
	if c := s.w.Counts(1); c.Pulls != 0 {
		t.Errorf("%+v", c)
	}
	s.drain()
	if l := s.w.Lines(0); len(l) != 0 {
		t.Errorf("%+v", l)
	}
}

func TestExample8ALateFirstPacket(t *testing.T) {
	s := staged(t, func(c *api.Conf) { c.Paths = 1 })
	s.send(1, "ab")
	s.gets(0, 1, api.Double, api.Data, api.First+api.End, 0)
	s.close(1)
	s.gets(0, 1, api.Deliver, api.Data, api.First+api.Fin, 1)
	before := s.w.Counts(1)
	s.waits(0, 0, 0, 2)
	s.gets(0, 1, api.Deliver, api.Data, api.First+api.End, 0)
	s.waits(0, 0, 0, 3)
	before.Arrived++
	before.Sent++
	if c := s.w.Counts(1); c != before || len(s.w.Lines(1)) != 0 {
		t.Errorf("%+v, not %+v; %+v", c, before, s.w.Lines(1))
	}
	s.has(1, "ab")
	s.gets(0, 0, api.Deliver, api.Ack, 0, 0)
	s.gets(0, 0, api.Deliver, api.Ack, 0, 1)
	s.gets(0, 0, api.Deliver, api.Ack, 0, 0)
}

func TestExample9TheTableIsFull(t *testing.T) {
	s := staged(t, func(c *api.Conf) { c.Table = 2 })
	s.send(1, "ab")
	s.send(2, "cd")
	before := s.w.Fork()
	if told := s.do(api.Step{Op: api.Open, Host: 0, Peer: 1}); !sameTold(told, api.Told{E: api.ErrTable}) {
		t.Errorf("%+v", told)
	}
	if !alike(s.w, before) {
		t.Errorf("%+v, not %+v", s.w.Lines(0), before.Lines(0))
	}
	s.close(2)
	s.drain()
	if told := s.do(api.Step{Op: api.Open, Host: 0, Peer: 1}); told.E != api.ErrTable {
		t.Errorf("%+v", told) // the floor is still 1
	}
	s.close(1)
	s.drain()
	s.send(3, "ef")
}

// nacked is a stage in which host 0 got five nacks, of the only packet that was trimmed, and their pulls wait at host 1.
func nacked(t *testing.T, paths int) (stage, int) {
	t.Helper()
	s := staged(t, func(c *api.Conf) { c.Paths, c.First, c.Window, c.Low, c.Weight = paths, paths+1, 9, 1, 9 })
	s.send(1, "abcdefghijklmnopqrstuvwxyz012345")
	path := 0
	if _, high := s.w.Lens(paths-1, 1); high > 0 {
		path = paths - 1
	}
	for i := range 5 {
		fate := api.Double
		if i == 4 {
			fate = api.Deliver
		}
		s.must(api.Step{Op: api.Serve, Path: path, Host: 1, Fate: fate})
		s.gets(path, 0, api.Deliver, api.Nack, 0, paths)
	}
	return s, path
}

func TestExample10APathWithFiveNacksIsSuspended(t *testing.T) {
	s, path := nacked(t, 2)
	s.loses(path, 1, 1)
	s.loses(1-path, 1, 1)
	for n := range 5 {
		s.tick(1, 1)
		s.gets(n%2, 0, api.Deliver, api.Pull, 0, n+1)
		s.waits(path, 1, 0, 0)
		s.waits(1-path, 1, 1, 0)
		s.loses(1-path, 1, 1)
	}
}

func TestExample10TheOnlyPathIsNot(t *testing.T) {
	s, path := nacked(t, 1)
	s.loses(path, 1, 1)
	for n := range 5 {
		s.tick(1, 1)
		s.gets(0, 0, api.Deliver, api.Pull, 0, n+1)
		s.waits(0, 1, 1, 0)
		s.loses(0, 1, 1)
	}
}
