package sender_test

import (
	"slices"
	"testing"

	"nozzle/api"
	"nozzle/draws"
	"nozzle/sender"
	"nozzle/wire"
)

// witness is a Sender, and what was seen of it from outside: it knows nothing of how a Sender works.
type witness struct {
	t        *testing.T
	c        api.Conf
	s        *sender.Sender
	pieces   []api.Piece // all that was accepted
	times    map[int]int // how often each number was emitted
	pulled   int         // the greatest that came
	acked    map[int]bool
	ticks    int // how many since something was emitted, or since nothing was open
	greatest int // the most of them, up to the tick that emits
}

func watched(t *testing.T, c api.Conf) *witness {
	t.Helper()
	s, e := sender.New(c, 2, 5, 9, 1)
	if e != api.OK {
		t.Fatal(c, e)
	}
	return &witness{t: t, c: c, s: s, times: map[int]int{}, acked: map[int]bool{}}
}

// low is the least number that is not acknowledged.
func (w *witness) low() int {
	n := 0
	for w.acked[n] {
		n++
	}
	return n
}

// see notes what a call emitted, and holds P17.7 of it: low is from where the window goes.
func (w *witness) see(out []api.Packet) {
	w.t.Helper()
	if len(out) > 0 {
		w.ticks = 0
	}
	for _, x := range out {
		w.times[x.Seq]++
		if x.Seq < 0 || x.Seq >= len(w.pieces) || x.Seq >= w.low()+w.c.Window {
			w.t.Fatalf("number %d of %d with low %d and a window of %d", x.Seq, len(w.pieces), w.low(), w.c.Window)
		}
		piece := w.pieces[x.Seq]
		want := api.Packet{Kind: api.Data, Src: 2, Dst: 5, Conn: 9, Seq: x.Seq, Path: x.Path, Flags: api.Urgent, Payload: piece.B}
		if x.Seq < w.c.First {
			want.Flags += api.First
		}
		if piece.End {
			want.Flags += api.End
		}
		if piece.Fin {
			want.Flags += api.Fin
		}
		if !wire.Same(x, want) || x.Path < 0 || x.Path >= w.c.Paths {
			w.t.Errorf("%v, not %v", x, want)
		}
	}
	w.hold()
}

// hold holds P17.6: what was emitted is the first window, once each, and what was spent and timed.
func (w *witness) hold() {
	w.t.Helper()
	line := w.s.Line()
	if line.Spent > line.Pulled || line.Pulled != w.pulled {
		w.t.Errorf("%+v, and %d was pulled", line, w.pulled)
	}
	sum, first := 0, min(w.c.First, len(w.pieces))
	for n, times := range w.times {
		sum += times
		if n >= line.Next {
			w.t.Errorf("%d was emitted: %+v", n, line)
		}
	}
	for n := range line.Next {
		if w.times[n] == 0 {
			w.t.Errorf("%d was not emitted: %+v", n, line)
		}
	}
	if sum != first+line.Spent+line.Timed {
		w.t.Errorf("%d were emitted, not %d, %d and %d", sum, first, line.Spent, line.Timed)
	}
	if line.Low != w.low() || line.Total != len(w.pieces) || line.Total-line.Low > w.c.Send {
		w.t.Errorf("%+v, not %d, %d", line, w.low(), len(w.pieces))
	}
}

func (w *witness) send(m []byte) {
	w.t.Helper()
	had := len(w.pieces)
	for part := range slices.Chunk(m, w.c.Mtu) {
		w.pieces = append(w.pieces, api.Piece{B: part})
	}
	w.pieces[len(w.pieces)-1].End = true
	out, e := w.s.Send(m)
	if e != api.OK {
		w.pieces = w.pieces[:had]
	}
	w.see(out)
}

func (w *witness) close() {
	w.t.Helper()
	w.pieces = append(w.pieces, api.Piece{Fin: true})
	out, e := w.s.Close()
	if e != api.OK {
		w.pieces = w.pieces[:len(w.pieces)-1]
	}
	w.see(out)
}

func (w *witness) take(x api.Packet) {
	w.t.Helper()
	if x.Kind == api.Pull {
		w.pulled = max(w.pulled, x.Pull)
	}
	if x.Kind == api.Ack && w.times[x.Seq] > 0 {
		low := w.low()
		w.acked[x.Seq] = true
		if w.low() > low {
			w.ticks = 0
		}
	}
	w.see(w.s.Take(x))
}

func (w *witness) tick() {
	w.t.Helper()
	open := w.low() < len(w.pieces)
	timed := w.s.Line().Timed
	w.ticks++
	out := w.s.Tick()
	if len(out) > 1 || w.s.Line().Timed != timed+len(out) {
		w.t.Errorf("Tick: %v, and %d timed", out, w.s.Line().Timed-timed)
	}
	if !open {
		w.ticks = 0
	}
	w.greatest = max(w.greatest, w.ticks)
	w.see(out)
}

// any does one of all calls.
func (w *witness) any(source *draws.Source) {
	w.t.Helper()
	x := api.Packet{Path: source.Below(10) - 1, Seq: w.low() + source.Below(14) - 2}
	switch source.Below(9) {
	case 0, 1:
		w.send(text(source.Next(), 1+source.Below(12)))
	case 2:
		if source.Below(20) == 0 {
			w.close()
		}
	case 3, 4:
		x.Kind = api.Ack
		w.take(x)
	case 5:
		x.Kind = api.Nack
		w.take(x)
	case 6:
		x.Kind, x.Flags = api.Data, 8+16
		w.take(x)
	case 7:
		x.Kind, x.Pull = api.Pull, w.pulled+source.Below(4)-1
		w.take(x)
	case 8:
		w.tick()
	}
}

// P17.6: credit. P17.7: window. P17.8: progress.

func TestPromisesOfAnyCalls(t *testing.T) {
	for seed := range uint64(400) {
		source := draws.New(seed)
		w := watched(t, confOf(source))
		for range 250 {
			w.any(source)
		}
	}
}

// TestProgress: from wherever it is, something is emitted within Cap ticks, again and again, until all is acknowledged.
func TestProgress(t *testing.T) {
	for seed := range uint64(150) {
		source := draws.New(1000 + seed)
		w := watched(t, confOf(source))
		for range 40 + source.Below(60) {
			w.any(source)
		}
		w.ticks, w.greatest = 0, 0
		for range 5 * w.c.Cap {
			w.tick()
		}
		if w.greatest > w.c.Cap {
			t.Errorf("%+v: %d ticks until something was emitted", w.c, w.greatest)
		}
		for w.low() < len(w.pieces) { // each Ack lets the timer go on to the next one
			for ticks := 1; w.times[w.low()] == 0; ticks++ {
				if w.tick(); ticks > w.c.Cap {
					t.Fatalf("%+v: %d was not sent", w.c, w.low())
				}
			}
			w.take(api.Packet{Kind: api.Ack, Seq: w.low()})
		}
		if w.low() != len(w.pieces) || w.s.Tick() != nil {
			t.Errorf("%+v: %d of %d", w.c, w.low(), len(w.pieces))
		}
	}
}

// TestCreditOfNothing: without pulls and ticks nothing is sent but the first window, whatever else comes.
func TestCreditOfNothing(t *testing.T) {
	w := watched(t, with(func(c *api.Conf) { c.Window, c.Send = 20, 100 }))
	w.send(text(1, 40))
	for n := -2; n < 25; n++ {
		for _, kind := range []api.Kind{api.Nack, api.Data, api.Ack, api.Nack, api.Ack} {
			w.take(api.Packet{Kind: kind, Flags: 24, Seq: n})
			w.take(api.Packet{Kind: api.Pull, Pull: 0})
		}
	}
	w.send(text(2, 40))
	w.close()
	if len(w.times) != 2 || w.times[0] != 1 || w.times[1] != 1 {
		t.Error(w.times)
	}
}

// arrives is a receiving end that has all, and pulls for each packet; what is lost is told by a source.
func arrives(w *witness, x api.Packet, source *draws.Source, pulls *int) {
	w.t.Helper()
	switch source.Below(6) {
	case 0: // lost
		return
	case 1: // it came trimmed
		w.take(api.Packet{Kind: api.Nack, Seq: x.Seq, Path: x.Path})
	case 2: // its header came back, and nobody pulls for it
		w.take(api.Packet{Kind: api.Data, Flags: x.Flags | 24, Seq: x.Seq, Path: x.Path})
		return
	default:
		w.take(api.Packet{Kind: api.Ack, Seq: x.Seq, Path: x.Path})
	}
	*pulls++
	if source.Below(4) > 0 {
		w.take(api.Packet{Kind: api.Pull, Pull: *pulls})
	}
}

// TestAllIsSentInTheEnd: whatever is lost, everything comes through at last, each piece with its bytes.
func TestAllIsSentInTheEnd(t *testing.T) {
	for seed := range uint64(100) {
		source := draws.New(seed)
		c := confOf(source)
		c.Send = 60
		w := watched(t, c)
		for n := range uint64(8) {
			w.send(text(n, 1+source.Below(7)))
		}
		w.close()
		pulls, had := 0, map[int]int{}
		for range 4000 {
			for n := range w.low() + w.c.Window { // each that was emitted since then is in transit
				for had[n] < w.times[n] {
					had[n]++
					arrives(w, api.Packet{Flags: api.Urgent, Seq: n, Path: source.Below(c.Paths)}, source, &pulls)
				}
			}
			w.tick()
			if w.s.Done() {
				break
			}
		}
		if !w.s.Done() || w.low() != len(w.pieces) {
			t.Errorf("seed %d: %+v", seed, w.s.Line())
		}
	}
}
