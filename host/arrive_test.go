package host_test

import (
	"slices"
	"testing"

	"nozzle/api"
	"nozzle/wire"
)

// data is a packet of number 0, on path 1.
func data(src, dst, conn, flags int, payload string) api.Packet {
	return api.Packet{Kind: api.Data, Flags: flags, Path: 1, Src: src, Dst: dst, Conn: conn, Payload: []byte(payload)}
}

// numbered is a packet with another number.
func numbered(x api.Packet, seq int) api.Packet {
	x.Seq = seq
	return x
}

// P21.3: Arrive.

func TestBytesThatAreNoPacket(t *testing.T) {
	good := encoded(t, data(1, 0, 1, api.First, "abcd"))
	twisted := slices.Clone(good)
	twisted[20]++
	marked := slices.Clone(good)
	marked[0]++
	for _, c := range []struct {
		b []byte
		e api.Errno
	}{
		{nil, api.ErrShort}, {[]byte{1, 2, 3}, api.ErrShort}, {good[:35], api.ErrShort},
		{good[:38], api.ErrWire}, {append(slices.Clone(good), 0), api.ErrWire}, {marked, api.ErrWire},
		{twisted, api.ErrSum},
	} {
		p := made(t, conf(), 0)
		for n := 1; n < 4; n++ {
			out, e := p.arrive(c.b)
			if out != nil || e != c.e || p.h.Counts() != (api.Counts{Arrived: n, Bad: n}) {
				t.Errorf("Arrive(%v): %v, %d, %+v, not %d", c.b, out, e, p.h.Counts(), c.e)
			}
		}
		p.agree("bad")
	}
}

func TestPacketsForOtherHosts(t *testing.T) {
	for hosts := 2; hosts <= 8; hosts++ {
		p := made(t, with(func(c *api.Conf) { c.Hosts = hosts }), 1)
		wrong := 0
		for src := range 8 {
			for dst := range 8 {
				if src == dst || dst == 1 && src < hosts {
					continue
				}
				for kind := api.Data; kind <= api.Pull; kind++ {
					x := api.Packet{Kind: kind, Src: src, Dst: dst, Conn: 1}
					if kind == api.Data {
						x.Payload, x.Flags = []byte("x"), api.First
					}
					wrong++
					out, e := p.arrive(encoded(t, x))
					if out != nil || e != api.ErrHost || p.h.Counts() != (api.Counts{Arrived: wrong, Wrong: wrong}) {
						t.Errorf("%d hosts: %+v: %v, %d, %+v", hosts, x, out, e, p.h.Counts())
					}
				}
			}
		}
		for src := range hosts { // all others are for it
			if src != 1 {
				p.get(data(src, 1, 1, api.First, "x"))
			}
		}
		if c := p.h.Counts(); c.Wrong != wrong || len(p.h.Lines()) != hosts-1 {
			t.Errorf("%d hosts: %+v", hosts, c)
		}
	}
}

func TestDataMakesAConnection(t *testing.T) {
	for _, flags := range []int{api.First, api.First + api.End, api.First + api.Urgent, api.First + api.Trimmed, api.First + api.Trimmed + api.Urgent + api.End} {
		p := made(t, conf(), 0)
		x := data(2, 0, 2, flags, "x")
		want, class := api.Ack, 0
		if has(flags, api.Trimmed) {
			x.Payload, want = nil, api.Nack
		}
		if has(flags, api.Urgent) {
			class = 1
		}
		out := p.get(numbered(x, 1))
		if len(out) != 1 || !wire.Same(out[0], api.Packet{Kind: want, Path: 1, Src: 0, Dst: 2, Conn: 2, Seq: 1}) {
			t.Errorf("flags %d: %+v", flags, out)
		}
		if l := p.h.Lines(); len(l) != 1 || l[0] != (api.Line{Src: 2, Dst: 0, Conn: 2, Class: class, Arrived: 1, Pending: 1}) {
			t.Errorf("flags %d: %+v", flags, l)
		}
	}
}

// TestDataBeyondTheWindowMakesAConnection: it is created, though nothing is answered.
func TestDataBeyondTheWindowMakesAConnection(t *testing.T) {
	for _, seq := range []int{6, 7, 1 << 20, 1 << 60} {
		p := made(t, conf(), 0)
		out := p.get(numbered(data(1, 0, 1, api.First, "x"), seq))
		if l := p.h.Lines(); len(out) != 0 || len(l) != 1 || l[0] != (api.Line{Src: 1, Dst: 0, Conn: 1}) {
			t.Errorf("%d: %v, %+v", seq, out, l)
		}
		if out := p.ticks(3); len(out) != 0 { // nor is a pull owed
			t.Errorf("%d: %v", seq, out)
		}
	}
}

func TestDataWithoutFirstIsStray(t *testing.T) {
	p := made(t, conf(), 0)
	n := 0
	for _, flags := range []int{0, api.End, api.Fin, api.Trimmed, api.Urgent, api.Trimmed + api.End + api.Urgent} {
		for _, conn := range []int{1, 2, 3, 1 << 30} { // whether they may be new or not
			x := data(1, 0, conn, flags, "x")
			if has(flags, api.Trimmed) || has(flags, api.Fin) {
				x.Payload = nil
			}
			n++
			if out := p.get(x); out != nil || p.h.Counts() != (api.Counts{Arrived: n, Stray: n}) || p.h.Lines() != nil {
				t.Errorf("%+v: %v, %+v", x, out, p.h.Counts())
			}
		}
	}
}

func TestDataWithoutRoomIsRefused(t *testing.T) {
	for _, table := range []int{1, 2, 5, 64} {
		p := made(t, with(func(c *api.Conf) { c.Table = table }), 0)
		n := 0
		for _, conn := range []int{table + 1, table + 2, 100, 1 << 20, 1<<30 - 1, 1 << 30} {
			n++
			if out := p.get(data(1, 0, conn, api.First, "x")); out != nil || p.h.Counts() != (api.Counts{Arrived: n, Refused: n}) || p.h.Lines() != nil {
				t.Errorf("table %d: %d: %v, %+v", table, conn, out, p.h.Counts())
			}
		}
		for conn := 1; conn <= table; conn++ {
			p.get(data(1, 0, conn, api.First, "x"))
		}
		if c := p.h.Counts(); c.Refused != n || len(p.h.Lines()) != table {
			t.Errorf("table %d: %+v", table, c)
		}
		p.get(data(1, 0, 1, api.First+api.Fin, "")) // number 0 is present: nothing is done by that
		p.get(data(1, 0, table+1, api.First, "x"))
		if c := p.h.Counts(); c.Refused != n+1 {
			t.Errorf("table %d: %+v", table, c)
		}
		p.get(numbered(data(1, 0, 1, api.Fin, ""), 1))
		p.get(data(1, 0, table+1, api.First, "x"))
		if c := p.h.Counts(); c.Refused != n+1 || len(p.h.Lines()) != table {
			t.Errorf("table %d: %+v, %d lines", table, c, len(p.h.Lines()))
		}
	}
}

func TestDataOfAClosedConnectionIsAcknowledged(t *testing.T) {
	p := made(t, conf(), 0)
	p.get(data(1, 0, 2, api.First+api.Fin, "")) // above the floor
	p.get(data(2, 0, 1, api.First+api.End, "all"))
	p.get(numbered(data(2, 0, 1, api.Fin, ""), 1)) // below it
	before := p.h.Counts()
	if p.h.Lines() != nil {
		t.Fatalf("Lines %+v", p.h.Lines())
	}
	for _, k := range []place{{1, 2}, {2, 1}} {
		for _, flags := range []int{0, api.First, api.Fin, api.First + api.Trimmed, api.Trimmed, api.End + api.Urgent} {
			for _, seq := range []int{0, 1, 5, 6, 1 << 60} {
				x := numbered(data(k.peer, 0, k.conn, flags, "x"), seq)
				x.Path = seq % 8
				if has(flags, api.Trimmed) || has(flags, api.Fin) {
					x.Payload = nil
				}
				out := p.get(x)
				if len(out) != 1 || !wire.Same(out[0], api.Packet{Kind: api.Ack, Path: x.Path, Src: 0, Dst: k.peer, Conn: k.conn, Seq: seq}) {
					t.Errorf("%+v: %+v", x, out)
				}
				before.Arrived++
				before.Sent++
				if c := p.h.Counts(); c != before || p.h.Lines() != nil {
					t.Errorf("%+v: %+v, not %+v", x, c, before)
				}
			}
		}
	}
	if l := p.h.Delivered(2, 1); len(l) != 1 || string(l[0]) != "all" || p.tick() != nil {
		t.Errorf("Delivered %q", l)
	}
}

func TestDataIsDelivered(t *testing.T) {
	p := made(t, conf(), 0)
	p.get(numbered(data(1, 0, 1, api.First+api.End, "c"), 2))
	p.get(numbered(data(1, 0, 1, api.First+api.End, "b"), 1))
	if l := p.h.Delivered(1, 1); len(l) != 0 {
		t.Errorf("Delivered %q", l)
	}
	p.get(data(1, 0, 1, api.First, "a"))
	p.get(data(1, 0, 1, api.First, "a"))
	if l := p.h.Delivered(1, 1); len(l) != 2 || string(l[0]) != "ab" || string(l[1]) != "c" {
		t.Errorf("Delivered %q", l)
	}
	if l := p.h.Lines(); len(l) != 1 || l[0].Next != 3 || l[0].Arrived != 3 {
		t.Errorf("Lines %+v", l)
	}
	if l := p.h.Delivered(1, 2); l != nil || p.h.Delivered(2, 1) != nil || p.h.Accepted(1, 1) != nil {
		t.Errorf("elsewhere: %q", l)
	}
}

// TestFinComesEarly: it is nothing until all ahead of it came.
func TestFinComesEarly(t *testing.T) {
	p := made(t, conf(), 0)
	p.get(numbered(data(1, 0, 1, api.First+api.Fin, ""), 1))
	if l := p.h.Lines(); len(l) != 1 || l[0].Next != 0 {
		t.Errorf("Lines %+v", l)
	}
	p.get(data(1, 0, 1, api.First+api.End, "a"))
	if l := p.h.Delivered(1, 1); p.h.Lines() != nil || len(l) != 1 || string(l[0]) != "a" {
		t.Errorf("Lines %+v, Delivered %q", p.h.Lines(), l)
	}
	if out := p.ticks(3); out != nil { // the pulls that it was owed are forgotten
		t.Errorf("Tick %+v", out)
	}
}

// TestNumbersOfBothDirectionsAreApart: a connection to a host and one from it may have the same number.
func TestNumbersOfBothDirectionsAreApart(t *testing.T) {
	p := made(t, conf(), 0)
	p.open(1, 0)
	p.send(1, 1, []byte("out"))
	p.get(data(1, 0, 1, api.First+api.Fin, ""))
	if l := p.h.Lines(); len(l) != 1 || l[0].Src != 0 {
		t.Errorf("Lines %+v", l)
	}
	p.finish(1, 1)
	p.get(data(1, 0, 2, api.First, "x"))
	if n, e := p.open(1, 0); n != 2 || e != api.OK {
		t.Errorf("Open %d, %d", n, e)
	}
	if l := p.h.Lines(); len(l) != 2 || l[0].Src != 0 || l[1].Src != 1 {
		t.Errorf("Lines %+v", l)
	}
}

// answers are packets of all kinds that a sending connection takes.
func answers(src, dst, conn int) []api.Packet {
	return []api.Packet{
		{Kind: api.Ack, Src: src, Dst: dst, Conn: conn},
		{Kind: api.Nack, Src: src, Dst: dst, Conn: conn},
		{Kind: api.Pull, Src: src, Dst: dst, Conn: conn, Pull: 1},
		{Kind: api.Data, Flags: api.Trimmed + api.Bounced, Src: src, Dst: dst, Conn: conn},
		{Kind: api.Data, Flags: api.First + api.Fin + api.Trimmed + api.Bounced + api.Urgent, Src: src, Dst: dst, Conn: conn},
	}
}

func TestAnswersOfNoConnectionAreStray(t *testing.T) {
	p := made(t, conf(), 0)
	p.get(data(1, 0, 1, api.First, "x")) // receives, and so takes no answers
	p.get(data(1, 0, 2, api.First+api.Fin, ""))
	p.open(2, 0)
	p.open(2, 0)
	p.finish(2, 1)
	before := p.h.Counts()
	lines := p.h.Lines()
	for _, k := range []place{{1, 1}, {1, 2}, {1, 3}, {2, 1}, {2, 3}, {2, 1 << 30}} {
		for _, x := range answers(k.peer, 0, k.conn) {
			out := p.get(x)
			before.Arrived++
			before.Stray++
			if out != nil || p.h.Counts() != before || !slices.Equal(p.h.Lines(), lines) {
				t.Errorf("%+v: %+v, %+v", x, out, p.h.Counts())
			}
		}
	}
}

func TestAnswersGoToTheirSender(t *testing.T) {
	for _, x := range answers(1, 0, 2) {
		p := made(t, conf(), 0)
		for _, k := range []place{{1, 1}, {1, 2}, {2, 1}, {2, 2}} {
			p.open(k.peer, 0)
			p.send(k.peer, k.conn, []byte("hello world"))
		}
		p.get(api.Packet{Kind: api.Pull, Src: 1, Dst: 0, Conn: 2, Pull: 1})
		out := p.get(x)
		if c := p.h.Counts(); c.Stray != 0 || len(out) != 0 {
			t.Errorf("%+v: %+v, %+v", x, out, c)
		}
		out = p.get(api.Packet{Kind: api.Pull, Src: 1, Dst: 0, Conn: 2, Pull: 2})
		isAgain := x.Kind == api.Nack || x.Kind == api.Data
		if isAgain != (len(out) == 1 && out[0].Seq == 0 && out[0].Conn == 2 && out[0].Dst == 1) {
			t.Errorf("%+v: %+v", x, out)
		}
		for _, l := range p.h.Lines() {
			if l.Dst == 1 && l.Conn == 2 {
				continue
			}
			if l.Low != 0 || l.Pulled != 0 || l.Next != 2 {
				t.Errorf("%+v: %+v", x, l)
			}
		}
	}
}

// TestPullsSendWhatTheyAllow: what a sender answers is answered.
func TestPullsSendWhatTheyAllow(t *testing.T) {
	p := made(t, conf(), 0)
	p.open(1, 0)
	p.send(1, 1, []byte("hello world!!!!!!!!!"))
	out := p.get(api.Packet{Kind: api.Pull, Src: 1, Dst: 0, Conn: 1, Pull: 2})
	if len(out) != 2 || out[0].Seq != 2 || out[1].Seq != 3 {
		t.Errorf("%+v", out)
	}
	if out := p.get(api.Packet{Kind: api.Pull, Src: 1, Dst: 0, Conn: 1, Pull: 1}); len(out) != 0 {
		t.Errorf("a late pull: %+v", out)
	}
}

// P21.4: Tick.

// TestTickPulls: one a tick, as many as data came, by turns.
func TestTickPulls(t *testing.T) {
	p := made(t, conf(), 0)
	for seq := range 3 {
		p.get(numbered(data(1, 0, 1, api.First, "x"), seq))
		p.get(numbered(data(2, 0, 2, api.First, "x"), seq))
		p.get(numbered(data(2, 0, 2, api.First, "x"), seq)) // once more
	}
	x := numbered(data(1, 0, 1, api.First+api.Trimmed, ""), 3)
	p.get(x)
	p.get(x)
	var got []place
	for range 8 {
		out := p.tick()
		if len(out) != 1 || out[0].Kind != api.Pull || out[0].Src != 0 {
			t.Fatalf("Tick %+v", out)
		}
		got = append(got, place{out[0].Dst, out[0].Pull})
	}
	if want := []place{{1, 1}, {2, 1}, {1, 2}, {2, 2}, {1, 3}, {2, 3}, {1, 4}, {1, 5}}; !slices.Equal(got, want) {
		t.Errorf("turns %v, not %v", got, want)
	}
	if out := p.tick(); out != nil {
		t.Errorf("Tick %+v", out)
	}
	if c := p.h.Counts(); c.Pulls != 8 {
		t.Errorf("Counts %+v", c)
	}
}

// TestTickPullsUrgentOnesFirst: a plain one that waits is not starved.
func TestTickPullsUrgentOnesFirst(t *testing.T) {
	p := made(t, conf(), 0)
	p.get(data(1, 0, 1, api.First, "x"))
	for seq := range 6 {
		p.get(numbered(data(2, 0, 1, api.First+api.Urgent, "x"), seq))
	}
	var got []int
	for _, x := range p.ticks(7) {
		got = append(got, x.Dst)
	}
	if want := []int{2, 2, 2, 2, 1, 2, 2}; !slices.Equal(got, want) {
		t.Errorf("turns %v, not %v", got, want)
	}
}

// TestTickForgetsTheDone: of two, the one that is done has no turn.
func TestTickForgetsTheDone(t *testing.T) {
	p := made(t, conf(), 0)
	for seq := range 3 {
		p.get(numbered(data(1, 0, 1, api.First, "x"), seq))
		p.get(numbered(data(2, 0, 1, api.First, "x"), seq))
	}
	p.tick()
	p.get(numbered(data(1, 0, 1, api.Fin, ""), 3))
	var got []int
	for _, x := range p.ticks(9) {
		got = append(got, x.Dst)
	}
	if want := []int{2, 2, 2}; !slices.Equal(got, want) {
		t.Errorf("turns %v, not %v", got, want)
	}
}

// TestTickGoesThroughTheSendersInOrder: behind the pull.
func TestTickGoesThroughTheSendersInOrder(t *testing.T) {
	p := made(t, with(func(c *api.Conf) { c.Hosts, c.Table = 4, 4 }), 1)
	p.get(data(0, 1, 1, api.First, "x"))
	want := []place{{0, 1}} // the pull
	for _, dst := range []int{3, 0, 2} {
		for conn := 1; conn <= 3; conn++ {
			p.open(dst, 0)
		}
	}
	for _, k := range []place{{3, 2}, {3, 1}, {0, 3}, {2, 1}, {0, 1}, {2, 2}} {
		p.send(k.peer, k.conn, []byte("abc"))
	}
	p.ticks(2)
	p.get(numbered(data(0, 1, 1, api.First, "x"), 1))
	p.get(numbered(data(0, 1, 1, api.First, "x"), 2))
	if out := p.ticks(2); len(out) != 2 {
		t.Errorf("Tick %+v", out)
	}
	p.get(numbered(data(0, 1, 1, api.First, "x"), 3))
	out := p.tick() // the fifth: all timers fire
	var got []place
	for _, x := range out {
		got = append(got, place{x.Dst, x.Conn})
	}
	want = append(want, place{0, 1}, place{0, 3}, place{2, 1}, place{2, 2}, place{3, 1}, place{3, 2})
	if !slices.Equal(got, want) || out[0].Kind != api.Pull {
		t.Errorf("Tick %v, not %v", got, want)
	}
}
