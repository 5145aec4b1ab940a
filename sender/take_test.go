package sender_test

import (
	"math"
	"slices"
	"testing"

	"nozzle/api"
	"nozzle/sender"
)

// P17.3: Take.

// orders are all orders of the numbers below n.
func orders(n int) [][]int {
	if n == 0 {
		return [][]int{nil}
	}
	var out [][]int
	for _, l := range orders(n - 1) {
		for at := range n {
			out = append(out, slices.Insert(slices.Clone(l), at, n-1))
		}
	}
	return out
}

// full are settings with a window that all that is sent has room in, and that need no pulls.
func full() api.Conf {
	return with(func(c *api.Conf) { c.First, c.Window = 5, 5 })
}

func TestAckInEveryOrder(t *testing.T) {
	for _, l := range orders(4) {
		p := loaded(t, full(), 3)
		p.close()
		for _, n := range l {
			p.ack(0, n)
			p.ack(0, n) // the second one finds nothing
		}
		if !p.s.Done() || p.s.Line().Low != 4 {
			t.Errorf("%v: %+v", l, p.s.Line())
		}
		if out := p.skip(30); out != nil {
			t.Errorf("%v: %v", l, out)
		}
	}
}

func TestAckOfWhatIsNotOutstanding(t *testing.T) {
	for _, seq := range append(outside(), -1, 2, 3, 4, 5, 10) {
		p := loaded(t, conf(), 4)
		p.skip(1)
		p.ack(0, seq)
		if line := p.s.Line(); line.Low != 0 || line.Next != 2 {
			t.Errorf("Ack of %d: %+v", seq, line)
		}
		p.probe()
	}
}

// TestAckResetsTheTimer: where the least number that is not acknowledged goes up, and nowhere else.
func TestAckResetsTheTimer(t *testing.T) {
	for seq := -1; seq < 5; seq++ {
		p := loaded(t, full(), 3)
		p.skip(6) // fired after 2 and 4 ticks: 8 are left
		p.skip(3)
		p.ack(0, seq)
		ticks := 1
		for p.tick() == nil {
			ticks++
		}
		if want := map[bool]int{true: 2, false: 5}[seq == 0]; ticks != want {
			t.Errorf("Ack of %d: sent after %d ticks, not %d", seq, ticks, want)
		}
		p.probe()
	}
	p := loaded(t, full(), 3)
	p.ack(0, 1)
	p.skip(1)
	p.ack(0, 1)
	p.ack(0, 2)
	if out := p.skip(1); !are(out, 0) {
		t.Error("behind a gap:", out)
	}
	p.skip(3)
	p.ack(0, 0) // over the gap
	if out := p.skip(9); out != nil {
		t.Error("all acknowledged:", out)
	}
	p.send([]byte("z"))
	if out := p.skip(2); !are(out, 3) {
		t.Error("it begins anew:", out)
	}
}

func TestAckTakesOffTheRepeatList(t *testing.T) {
	for acked := range 3 {
		p := loaded(t, full(), 3)
		for _, n := range []int{2, 0, 1} {
			p.nack(0, n)
		}
		p.ack(0, acked)
		want := slices.DeleteFunc([]int{2, 0, 1}, func(n int) bool { return n == acked })
		if out := p.pull(5); !slices.Equal(seqs(out), want) || p.s.Line().Spent != 2 {
			t.Errorf("Ack of %d: %v", acked, out)
		}
	}
}

// TestAckMovesTheWindow: what was pulled and found no room is spent then.
func TestAckMovesTheWindow(t *testing.T) {
	p := loaded(t, conf(), 9)
	if out := p.pull(100); !are(out, 2, 3) {
		t.Error("the window:", out)
	}
	if out := p.ack(0, 1); out != nil {
		t.Error("behind a gap:", out)
	}
	if out := p.ack(0, 0); !are(out, 4, 5) {
		t.Error("over the gap:", out)
	}
	if out := p.ack(0, 2); !are(out, 6) {
		t.Error("the next one:", out)
	}
	if line := p.s.Line(); line.Pulled != 100 || line.Spent != 5 {
		t.Errorf("%+v", line)
	}
	p.probe()
}

// backs are what lets a number be sent again.
func backs() []func(p *pair, path, seq int) []api.Packet {
	return []func(p *pair, path, seq int) []api.Packet{(*pair).nack, (*pair).bounce}
}

func TestBackSendsAgain(t *testing.T) {
	for _, back := range backs() {
		for _, l := range orders(4) {
			p := loaded(t, full(), 4)
			for _, n := range l {
				if out := back(p, 0, n); out != nil {
					t.Error("sent without a pull:", out)
				}
				back(p, 0, n) // it is on the list
			}
			for i, n := range l {
				if out := p.pull(i + 1); !are(out, n) {
					t.Errorf("%v, pull %d: %v", l, i+1, out)
				}
			}
			if out := p.pull(9); out != nil {
				t.Error("sent twice:", out)
			}
			if out := back(p, 0, 3); !are(out, 3) || p.s.Line().Spent != 5 {
				t.Error("with a pull that is left:", out)
			}
		}
	}
}

func TestBackOfWhatIsNotOutstanding(t *testing.T) {
	for _, back := range backs() {
		for _, seq := range append(outside(), -1, 1, 4, 5, 6, 9) {
			p := loaded(t, full(), 4)
			p.ack(0, 1)
			back(p, 0, seq)
			if out := p.pull(9); out != nil {
				t.Errorf("%d: %v", seq, out)
			}
			p.probe()
		}
	}
}

// TestRepeatGoesFirst: ahead of what was never sent, also where the window has no more.
func TestRepeatGoesFirst(t *testing.T) {
	for _, back := range backs() {
		p := loaded(t, conf(), 9)
		back(p, 0, 1)
		back(p, 1, 0)
		if out := p.pull(3); !are(out, 1, 0, 2) {
			t.Error(out)
		}
		p.pull(9)
		back(p, 2, 3)
		if line := p.s.Line(); line.Next != 4 || line.Spent != 5 || !are(p.out, 0, 1, 1, 0, 2, 3, 3) {
			t.Errorf("%+v, %v", line, seqs(p.out))
		}
	}
}

func TestPathsAreSuspended(t *testing.T) {
	for i, back := range backs() {
		most := []int{4, 2}[i] // so many are borne
		for paths := 2; paths <= 8; paths++ {
			for path := range paths {
				p := loaded(t, with(func(c *api.Conf) { c.Paths = paths }), 3)
				for range most {
					back(p, path, 0)
				}
				if len(p.s.Active()) != paths {
					t.Errorf("%d of path %d of %d: %v", most, path, paths, p.s.Active())
				}
				back(p, path, 0)
				if l := p.s.Active(); len(l) != paths-1 || slices.Contains(l, path) {
					t.Errorf("%d of path %d of %d: %v", most+1, path, paths, l)
				}
				p.probe()
			}
		}
	}
}

func TestTheLastPathIsNotSuspended(t *testing.T) {
	for _, back := range backs() {
		for paths := 1; paths <= 8; paths++ {
			p := loaded(t, with(func(c *api.Conf) { c.Paths, c.Rest = paths, 1<<20 }), 3)
			for path := range paths {
				for range 9 {
					back(p, path, 1)
				}
			}
			if l := p.s.Active(); !slices.Equal(l, []int{paths - 1}) {
				t.Errorf("%d paths: %v", paths, l)
			}
			p.pull(1)
			p.skip(6)
			for _, x := range p.out[2:] {
				if x.Path != paths-1 {
					t.Errorf("%d paths: %v", paths, x)
				}
			}
		}
	}
}

func TestNoRestSuspendsNothing(t *testing.T) {
	p := loaded(t, with(func(c *api.Conf) { c.Rest = 0 }), 3)
	for n := range 30 {
		p.nack(n%2, 0)
		p.bounce(1, 0)
	}
	if len(p.s.Active()) != 3 {
		t.Error(p.s.Active())
	}
}

// TestAcksWeighAgainst: each of them bears one Nack more, wherever it comes from.
func TestAcksWeighAgainst(t *testing.T) {
	for acks := range 6 {
		for _, seq := range []int{0, 1, 2, -1, 99} {
			p := loaded(t, full(), 2)
			for range acks {
				p.ack(1, seq)
			}
			for range 4 + acks {
				p.nack(1, 0)
			}
			if len(p.s.Active()) != 3 {
				t.Errorf("%d Acks of %d, %d Nacks: %v", acks, seq, 4+acks, p.s.Active())
			}
			p.nack(1, 0)
			if !slices.Equal(p.s.Active(), []int{0, 2}) {
				t.Errorf("%d Acks of %d, %d Nacks: %v", acks, seq, 5+acks, p.s.Active())
			}
		}
	}
}

// TestNoSuchPath: it is not counted, but the packet is taken otherwise.
func TestNoSuchPath(t *testing.T) {
	for _, path := range append(outside(), -1, 3, 4, 7, 8, 9) {
		p := loaded(t, full(), 3)
		for range 9 {
			p.nack(path, 0)
			p.bounce(path, 1)
		}
		if len(p.s.Active()) != 3 {
			t.Errorf("path %d: %v", path, p.s.Active())
		}
		p.ack(path, 0)
		if out := p.pull(2); !are(out, 1) || p.s.Line().Low != 1 {
			t.Errorf("path %d: %v", path, out)
		}
		p.probe()
	}
}

// TestARoundClearsTheScore: what was counted ahead of it is forgotten.
func TestARoundClearsTheScore(t *testing.T) {
	for emitted := range 7 {
		p := loaded(t, with(func(c *api.Conf) { c.First, c.Window = 2, 9 }), 9) // two of three paths are taken
		for range 4 {
			p.nack(0, 0)
		}
		p.pull(emitted)
		p.nack(0, 1)
		if got, want := slices.Contains(p.s.Active(), 0), emitted > 0; got != want {
			t.Errorf("%d emitted: path 0 is active: %v", emitted, got)
		}
		for range 4 {
			p.nack(0, 1)
		}
		if slices.Contains(p.s.Active(), 0) {
			t.Errorf("%d emitted: path 0 is active after nine", emitted)
		}
		p.probe()
	}
}

// TestWithOnePathEachPacketClears: each begins a round. What a suspended path gets is counted too, and forgotten likewise.
func TestWithOnePathEachPacketClears(t *testing.T) {
	for pulled := range 4 {
		p := loaded(t, with(func(c *api.Conf) { c.Paths, c.Rto = 2, 8 }), 4)
		for range 5 {
			p.nack(1, -1)
		}
		if !slices.Equal(p.s.Active(), []int{0}) {
			t.Fatal(p.s.Active())
		}
		for range 4 {
			p.nack(1, -1)
		}
		p.pull(min(pulled, 2))
		p.skip(5)
		p.nack(1, -1)
		if got, want := len(p.s.Active()), map[bool]int{true: 2, false: 1}[pulled > 0]; got != want {
			t.Errorf("%d pulled: %v", pulled, p.s.Active())
		}
		p.probe()
	}
}

// TestARenewedListClearsNothing: the round that a renewal begins is not begun by a packet.
func TestARenewedListClearsNothing(t *testing.T) {
	p := loaded(t, conf(), 3)
	for range 4 {
		p.nack(0, 0)
	}
	for range 5 {
		p.nack(1, 0)
	}
	if !slices.Equal(p.s.Active(), []int{0, 2}) {
		t.Fatal(p.s.Active())
	}
	p.nack(0, 0)
	if !slices.Equal(p.s.Active(), []int{2}) {
		t.Error("the fifth Nack of path 0:", p.s.Active())
	}
	p.skip(4)
	p.agree("almost back")
	p.skip(1)
	if len(p.s.Active()) != 3 {
		t.Error("after five ticks:", p.s.Active())
	}
	p.probe()
}

// TestTheRoundIsCounted: a packet that begins a round lets what came ahead of it be forgotten, and nothing that comes behind it.
func TestTheRoundIsCounted(t *testing.T) {
	p := loaded(t, with(func(c *api.Conf) { c.First, c.Window, c.Send = 3, 20, 20 }), 20) // a whole round is emitted
	for round := range 5 {
		for range 4 {
			p.nack(0, 0)
		}
		for range 2 { // they do not end the round
			p.pull(p.m.pulled + 1)
		}
		if out := p.pull(p.m.pulled + 1); len(out) != 1 || len(p.s.Active()) != 3 {
			t.Errorf("round %d: %v, %v", round, out, p.s.Active())
		}
	}
	for range 4 {
		p.nack(0, 0)
	}
	p.pull(p.m.pulled + 2)
	p.nack(0, 0)
	if !slices.Equal(p.s.Active(), []int{1, 2}) {
		t.Error("within a round:", p.s.Active())
	}
}

func TestPullIsTheGreatest(t *testing.T) {
	for _, l := range [][]int{{1, 2, 3}, {3, 2, 1}, {3, 3, 3}, {2, 3, 1}, {0, 3, 0}, {-1, 3, -5}, {math.MinInt, 3, math.MinInt}} {
		p := loaded(t, with(func(c *api.Conf) { c.Window = 9 }), 9)
		greatest := 0
		for _, n := range l {
			was := greatest
			greatest = max(greatest, n)
			if out := p.pull(n); len(out) != greatest-was {
				t.Errorf("%v, Pull of %d: %v", l, n, out)
			}
		}
		if line := p.s.Line(); line.Pulled != 3 || line.Spent != 3 {
			t.Errorf("%v: %+v", l, line)
		}
	}
}

// TestPullOfAnyNumber: it is taken as it is, also where no packet that is valid has it.
func TestPullOfAnyNumber(t *testing.T) {
	for _, n := range outside() {
		p := loaded(t, conf(), 9)
		p.pull(1)
		p.pull(n)
		if line := p.s.Line(); line.Pulled != max(n, 1) || line.Spent != map[bool]int{true: 2, false: 1}[n > 1] {
			t.Errorf("Pull of %d: %+v", n, line)
		}
		p.pull(5)
		p.probe()
	}
}

// TestPullsThatAreLeft: they are spent as soon as there is something to be sent.
func TestPullsThatAreLeft(t *testing.T) {
	p := loaded(t, conf(), 2)
	if out := p.pull(5); out != nil || p.s.Line().Spent != 0 {
		t.Error("nothing is left to be sent:", out)
	}
	if out := p.nack(0, 1); !are(out, 1) {
		t.Error("Nack:", out)
	}
	if out, _ := p.send([]byte("a")); !are(out, 2) {
		t.Error("Send:", out)
	}
	if out, _ := p.close(); !are(out, 3) {
		t.Error("Close:", out)
	}
	if out := p.bounce(0, 0); !are(out, 0) {
		t.Error("Bounce:", out)
	}
	if out := p.nack(0, 0); !are(out, 0) {
		t.Error("the last one:", out)
	}
	if out := p.nack(0, 0); out != nil {
		t.Error("all are spent:", out)
	}
	if line := p.s.Line(); line.Pulled != 5 || line.Spent != 5 {
		t.Errorf("%+v", line)
	}
}

// TestOnlyItsOwnFields: an Ack and a Nack pull nothing, a Pull acknowledges nothing, and neither flags nor payloads matter there.
func TestOnlyItsOwnFields(t *testing.T) {
	all := api.Packet{Flags: 63, Path: 1, Src: 5, Dst: 2, Conn: 9, Seq: 0, Pull: 9, Payload: []byte("abc")}
	as := func(kind api.Kind, flags int) api.Packet {
		x := all
		x.Kind, x.Flags = kind, flags
		return x
	}
	for _, flags := range append(outside(), 0, 8, 16, 24, 63) {
		p := loaded(t, conf(), 3)
		p.take(as(api.Nack, flags))
		if line := p.s.Line(); line.Pulled != 0 || line.Low != 0 {
			t.Errorf("Nack: %+v", line)
		}
		p.take(as(api.Ack, flags))
		if line := p.s.Line(); line.Pulled != 0 || line.Low != 1 {
			t.Errorf("Ack: %+v", line)
		}
		p = loaded(t, conf(), 3)
		if out := p.take(as(api.Pull, flags)); !are(out, 2) || p.s.Line().Pulled != 9 || p.s.Line().Low != 0 {
			t.Errorf("Pull: %v, %+v", out, p.s.Line())
		}
		p.probe()
	}
}

// TestWhosePackets: it is not examined.
func TestWhosePackets(t *testing.T) {
	for _, n := range append(outside(), 0, 2, 3, 5, 9) {
		p := loaded(t, conf(), 9)
		from := func(kind api.Kind, seq, pull int) api.Packet {
			return api.Packet{Kind: kind, Flags: 16, Src: n, Dst: n, Conn: n, Seq: seq, Pull: pull}
		}
		p.take(from(api.Ack, 0, 0))
		p.take(from(api.Nack, 1, 0))
		p.take(from(api.Pull, 0, 2))
		p.take(from(api.Data, 2, 0))
		if line := p.s.Line(); line.Low != 1 || line.Pulled != 2 || !are(p.out, 0, 1, 1, 2) {
			t.Errorf("%d: %+v, %v", n, line, seqs(p.out))
		}
		if out := p.pull(3); !are(out, 2) {
			t.Errorf("%d: %v", n, out)
		}
	}
}

// TestFlagsOfBounced: data is bounced if its flags are not negative and have 16.
func TestFlagsOfBounced(t *testing.T) {
	var all []int
	for flags := -130; flags < 300; flags++ {
		all = append(all, flags)
	}
	all = append(all, outside()...)
	all = append(all, 1<<40, 1<<40+16, math.MinInt+16, math.MinInt+24, -1<<40+16, 1<<62+16)
	for _, flags := range all {
		p := loaded(t, conf(), 2)
		p.pull(1)
		out := p.take(api.Packet{Kind: api.Data, Flags: flags, Seq: 1, Path: 1})
		bounced := flags >= 0 && flags/16%2 == 1
		if bounced != are(out, 1) || !bounced && out != nil {
			t.Errorf("flags %d: %v", flags, out)
		}
		for range 9 {
			p.take(api.Packet{Kind: api.Data, Flags: flags, Seq: -1, Path: 1})
		}
		if slices.Contains(p.s.Active(), 1) == bounced {
			t.Errorf("flags %d: %v", flags, p.s.Active())
		}
	}
}

func TestAnythingElseDoesNothing(t *testing.T) {
	var kinds []api.Kind
	for _, n := range append(outside(), 0, 5, 6, 17, 1<<32+2) {
		kinds = append(kinds, api.Kind(n))
	}
	for _, kind := range append(kinds, api.Data) {
		for _, flags := range []int{0, 1, 8, 15, 47, -16, -1} {
			p := loaded(t, conf(), 4)
			p.nack(0, 0)
			p.skip(1)
			want := p.s.Line()
			for range 9 {
				x := api.Packet{Kind: kind, Flags: flags, Path: 1, Src: 5, Dst: 2, Conn: 9, Seq: 1, Pull: 7, Payload: []byte("ab")}
				if out := p.take(x); out != nil || p.s.Line() != want || len(p.s.Active()) != 3 {
					t.Errorf("%v: %v, %+v, %v", x, out, p.s.Line(), p.s.Active())
				}
			}
			p.probe()
		}
	}
}

// P17.4: Tick.

// fired are the ticks, of so many, at which something was emitted.
func fired(p *pair, ticks int) []int {
	var out []int
	for tick := 1; tick <= ticks; tick++ {
		if p.tick() != nil {
			out = append(out, tick)
		}
	}
	return out
}

func TestTimerWaitsTwiceAsLong(t *testing.T) {
	for _, x := range []struct {
		rto, most int
		want      []int
	}{
		{2, 8, []int{2, 6, 14, 22, 30}},
		{1, 1, []int{1, 2, 3, 4, 5, 6, 7, 8}},
		{1, 3, []int{1, 3, 6, 9, 12}},
		{3, 10, []int{3, 9, 19, 29}},
		{5, 5, []int{5, 10, 15, 20}},
	} {
		for pieces := 1; pieces < 4; pieces++ {
			p := loaded(t, with(func(c *api.Conf) { c.Rto, c.Cap = x.rto, x.most }), pieces)
			last := x.want[len(x.want)-1]
			if got := fired(p, last); !slices.Equal(got, x.want) || p.s.Line().Timed != len(x.want) {
				t.Errorf("%d to %d: %v, not %v", x.rto, x.most, got, x.want)
			}
			for _, sent := range p.out[min(pieces, 2):] {
				if sent.Seq != 0 {
					t.Error("not the least one:", sent)
				}
			}
		}
	}
}

func TestTimerAtItsLimits(t *testing.T) {
	for _, rto := range []int{1<<20 - 1, 1 << 20} {
		s, _ := sender.New(with(func(c *api.Conf) { c.Rto, c.Cap = rto, 1<<20 }), 0, 1, 1, 0)
		s.Send([]byte("a"))
		for tick := 1; tick < rto; tick++ {
			if out := s.Tick(); out != nil {
				t.Fatalf("%d: tick %d: %v", rto, tick, out)
			}
		}
		if out := s.Tick(); !are(out, 0) {
			t.Errorf("%d: %v", rto, out)
		}
	}
}

// TestTimerSendsTheLeast: that is not acknowledged, if one was sent; otherwise the next one.
func TestTimerSendsTheLeast(t *testing.T) {
	for acked := range 8 { // which of three are acknowledged, bit by bit
		p := loaded(t, with(func(c *api.Conf) { c.First = 3 }), 5)
		least := 3
		for n := 2; n >= 0; n-- {
			if acked>>n%2 == 1 {
				p.ack(0, n)
			} else {
				least = n
			}
		}
		before := p.s.Line()
		out := p.skip(2)
		if !are(out, least) {
			t.Errorf("%03b: %v, not %d", acked, out, least)
		}
		before.Timed, before.Next = 1, max(3, least+1)
		if got := p.s.Line(); got != before {
			t.Errorf("%03b: %+v, not %+v", acked, got, before)
		}
		p.probe()
	}
}

// TestTimerSendsTheNextOnes: one after the other, though nothing was pulled.
func TestTimerSendsTheNextOnes(t *testing.T) {
	p := loaded(t, with(func(c *api.Conf) { c.First, c.Window = 1, 1 }), 3)
	p.close()
	for n := range 4 {
		if n > 0 {
			if out := p.skip(2); !are(out, n) {
				t.Errorf("number %d: %v", n, out)
			}
		}
		p.ack(0, n)
	}
	if line := p.s.Line(); !line.Done || line.Timed != 3 || line.Spent != 0 || !are(p.out, 0, 1, 2, 3) {
		t.Errorf("%+v, %v", line, p.out)
	}
	if p.out[0].Flags != api.First+api.End+api.Urgent || p.out[1].Flags != api.End+api.Urgent || p.out[3].Flags != api.Fin+api.Urgent {
		t.Error(p.out)
	}
}

// TestTimerKeepsTheRepeatList: what the timer sends is still to be sent again.
func TestTimerKeepsTheRepeatList(t *testing.T) {
	p := loaded(t, conf(), 3)
	p.nack(0, 0)
	p.nack(0, 1)
	if out := p.skip(2); !are(out, 0) {
		t.Error("the timer:", out)
	}
	if out := p.pull(3); !are(out, 0, 1, 2) {
		t.Error("the pulls:", out)
	}
	if line := p.s.Line(); line.Timed != 1 || line.Spent != 3 {
		t.Errorf("%+v", line)
	}
}

func TestTimerDoesNotRunWithoutNeed(t *testing.T) {
	p := made(t, conf())
	for n := range 3 {
		if got := fired(p, 20); got != nil {
			t.Error("nothing is open:", got)
		}
		p.send([]byte("a"))
		p.skip(3)
		p.ack(0, n)
	}
	if got := fired(p, 20); got != nil {
		t.Error("all is acknowledged:", got)
	}
	p.send([]byte("a"))
	p.skip(1)
	p.pull(9)
	p.nack(0, -1)
	if got := fired(p, 5); !slices.Equal(got, []int{1, 5}) {
		t.Error("it begins anew, and only an Ack lets it wait anew:", got)
	}
}

func TestTickBringsPathsBack(t *testing.T) {
	for _, rest := range []int{1, 2, 5, 40} {
		p := loaded(t, with(func(c *api.Conf) { c.Rest = rest }), 3)
		for range 5 {
			p.nack(1, 0)
		}
		for tick := range rest {
			if !slices.Equal(p.s.Active(), []int{0, 2}) {
				t.Errorf("%d of %d ticks: %v", tick, rest, p.s.Active())
			}
			p.tick()
		}
		if !slices.Equal(p.s.Active(), []int{0, 1, 2}) {
			t.Errorf("%d ticks: %v", rest, p.s.Active())
		}
		p.probe()
	}
}

// TestTickRenewsAheadOfTheTimer: what it emits may go on a path that is back at that tick.
func TestTickRenewsAheadOfTheTimer(t *testing.T) {
	back := 0
	for seed := range 40 {
		p := loaded(t, with(func(c *api.Conf) { c.Paths, c.Rest, c.Seed = 2, 2, seed }), 3)
		for range 5 {
			p.nack(1, 0)
		}
		p.tick()
		out := p.tick()
		if !are(out, 0) || len(p.s.Active()) != 2 {
			t.Fatalf("seed %d: %v, %v", seed, out, p.s.Active())
		}
		back += out[0].Path
	}
	if back == 0 || back == 40 {
		t.Errorf("%d of 40 went on the path that was back", back)
	}
}

// TestTickGoesOnWithoutPieces: a path comes back also while nothing is open.
func TestTickGoesOnWithoutPieces(t *testing.T) {
	p := made(t, conf())
	for range 5 {
		p.nack(2, 0)
	}
	p.skip(4)
	if !slices.Equal(p.s.Active(), []int{0, 1}) {
		t.Error(p.s.Active())
	}
	p.tick()
	if !slices.Equal(p.s.Active(), []int{0, 1, 2}) {
		t.Error(p.s.Active())
	}
}
