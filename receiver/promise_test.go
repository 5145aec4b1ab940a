package receiver_test

import (
	"testing"

	"nozzle/api"
	"nozzle/draws"
	"nozzle/receiver"
)

// witness is a Receiver, and what was seen of it from outside: it knows nothing of how a Receiver works.
type witness struct {
	t         *testing.T
	window    int
	r         *receiver.Receiver
	sequence  []api.Packet // all pieces that there are, the Fin behind them
	came      map[int]bool // those that were acknowledged when they came untrimmed
	answered  int          // data that was answered by an Ack for the first time, or by a Nack
	issued    int
	delivered [][]byte
}

// watched is one to which the pieces of messages come: some of one piece, and some of more.
func watched(t *testing.T, source *draws.Source, pieces int) *witness {
	t.Helper()
	c := confOf(source)
	r, e := receiver.New(c, 4, 2, 7, 0)
	if e != api.OK {
		t.Fatal(c, e)
	}
	w := &witness{t: t, window: c.Window, r: r, came: map[int]bool{}}
	for n := range pieces {
		x := data(n, 0, string(text(source.Next(), 1+source.Below(4))))
		if source.Below(3) == 0 || n == pieces-1 {
			x.Flags = api.End
		}
		w.sequence = append(w.sequence, x)
	}
	w.sequence = append(w.sequence, data(pieces, api.Fin, ""))
	return w
}

// whole is the messages at the beginning of the sequence whose pieces have all come.
func (w *witness) whole() [][]byte {
	var out [][]byte
	var open []byte
	for n, x := range w.sequence {
		if !w.came[n] {
			break
		}
		open = append(open, x.Payload...)
		if x.Flags == api.End {
			out = append(out, open)
			open = nil
		}
	}
	return out
}

// hold holds P19.5, P19.6 and P19.7.
func (w *witness) hold() {
	w.t.Helper()
	if want := w.whole(); !sames(w.delivered, want) {
		w.t.Fatalf("delivered %q, not %q", w.delivered, want)
	}
	line := w.r.Line()
	if line.Pulled != w.issued || line.Pulled+line.Pending > line.Arrived || line.Arrived != w.answered || line.Pending != w.r.Pending() {
		w.t.Fatalf("%+v: %d issued, %d answered", line, w.issued, w.answered)
	}
	if !line.Done && line.Pulled+line.Pending != line.Arrived {
		w.t.Fatalf("%+v: a pull is lost", line)
	}
	kept := w.r.Kept()
	if len(kept) > w.window-1 {
		w.t.Fatalf("a window of %d, and %v is kept", w.window, kept)
	}
	for _, n := range kept {
		if n <= line.Next || n >= line.Next+w.window || !w.came[n] {
			w.t.Fatalf("%+v keeps %d", line, n)
		}
	}
}

// take lets a piece come, whole or trimmed.
func (w *witness) take(n int, trimmed bool) {
	w.t.Helper()
	x := w.sequence[n]
	if trimmed {
		x.Flags, x.Payload = x.Flags+api.Trimmed, nil
	}
	a, messages := w.r.Take(x)
	w.delivered = append(w.delivered, messages...)
	switch {
	case len(a) == 1 && a[0].Kind == api.Nack:
		if !trimmed || w.came[n] {
			w.t.Fatalf("%d: %v", n, a)
		}
		w.answered++
	case len(a) == 1 && a[0].Kind == api.Ack:
		if trimmed && !w.came[n] {
			w.t.Fatalf("%d never came: %v", n, a)
		}
		if !w.came[n] {
			w.came[n] = true
			w.answered++
		}
	case len(a) != 0 || w.came[n] || n < w.r.Line().Next+w.window:
		w.t.Fatalf("%d: %v", n, a)
	}
	w.hold()
}

func (w *witness) issue() {
	w.t.Helper()
	if x, ok := w.r.Issue(); ok {
		w.issued++
		if x.Pull != w.issued {
			w.t.Fatalf("%+v, not %d", x, w.issued)
		}
	}
	w.hold()
}

// P19.5: in order, once. P19.6: pulls. P19.7: bound.

func TestPromisesInAnyOrder(t *testing.T) {
	for seed := range uint64(300) {
		source := draws.New(seed)
		w := watched(t, source, 1+source.Below(60))
		for range 400 {
			if source.Below(4) == 0 {
				w.issue()
			} else {
				w.take(source.Below(len(w.sequence)), source.Below(3) == 0)
			}
		}
		for !w.r.Done() { // what is lacking comes at last
			w.take(w.r.Line().Next, source.Below(3) == 0)
			w.issue()
		}
		if len(w.came) != len(w.sequence) || w.r.Pending() != 0 || w.r.Kept() != nil {
			t.Errorf("seed %d: %d of %d, %+v", seed, len(w.came), len(w.sequence), w.r.Line())
		}
		for n := range w.sequence {
			w.take(n, n%2 == 0)
		}
		w.issue()
	}
}

// TestPromisesFromBehind: all but what is lacking first comes ahead of it, as far as the window goes.
func TestPromisesFromBehind(t *testing.T) {
	for seed := range uint64(60) {
		source := draws.New(5000 + seed)
		w := watched(t, source, 1+source.Below(300))
		for !w.r.Done() {
			next := w.r.Line().Next
			for n := min(next+w.window+1, len(w.sequence)-1); n >= next; n-- {
				w.take(n, false)
			}
		}
		if len(w.came) != len(w.sequence) || w.r.Line().Arrived != len(w.sequence) {
			t.Errorf("seed %d: %+v", seed, w.r.Line())
		}
	}
}

// TestPullsOfRepeats: what comes again is acknowledged, and pulls for nothing.
func TestPullsOfRepeats(t *testing.T) {
	w := watched(t, draws.New(8), 12)
	for range 50 {
		for _, n := range []int{0, 0, 1} {
			w.take(n, false)
			w.take(n, true)
		}
		w.issue()
	}
	if line := w.r.Line(); line.Arrived != line.Next+len(w.r.Kept()) || line.Arrived > 2 || line.Pending != 0 {
		t.Errorf("%+v", line)
	}
}
