package tomb_test

import (
	"testing"

	"nozzle/api"
	"nozzle/draws"
	"nozzle/tomb"
)

// witness sees from outside what a tomb tells of what was closed.
type witness struct {
	t      *testing.T
	x      *tomb.Tomb
	span   int
	closed map[int]bool
	floor  int
}

// close closes a number, and holds all that is promised of what was closed so far.
func (w *witness) close(n int) {
	w.t.Helper()
	wasOpen, e := w.x.Close(n)
	if e == api.OK && wasOpen == w.closed[n] {
		w.t.Errorf("Close(%d): %v", n, wasOpen)
	}
	if e == api.OK {
		w.closed[n] = true
	}
	for n := range w.closed {
		if !w.x.Closed(n) || w.x.May(n) {
			w.t.Fatalf("%d was closed: Closed %v, May %v", n, w.x.Closed(n), w.x.May(n))
		}
	}
	if w.x.Floor() < w.floor || w.closed[w.x.Floor()] {
		w.t.Errorf("Floor %d after %d", w.x.Floor(), w.floor)
	}
	w.floor = w.x.Floor()
	if w.x.Count() >= w.span {
		w.t.Errorf("%d numbers closed above the floor with span %d", w.x.Count(), w.span)
	}
	if len(w.x.Open(w.span))+w.x.Count() != w.span {
		w.t.Errorf("Open %v, and %d closed", w.x.Open(w.span), w.x.Count())
	}
}

// P20.4: what is closed stays closed, whatever is closed later. P20.5: never as many closed numbers above the floor as the span.

func TestWhatIsClosedStaysClosed(t *testing.T) {
	for _, span := range []int{1, 2, 3, 7, 32, 63, 64} {
		s := draws.New(draws.Key(204, span))
		x, _ := tomb.New(span)
		w := &witness{t, x, span, map[int]bool{}, 1}
		for range 400 {
			w.close(w.floor - 2 + s.Below(span+4))
			w.close(nowhere[s.Below(len(nowhere))])
		}
	}
}

func TestAllButTheFloorAreClosed(t *testing.T) {
	for span := 1; span <= 64; span++ {
		x, _ := tomb.New(span)
		w := &witness{t, x, span, map[int]bool{}, 1}
		for range 3 {
			floor := w.floor
			for n := floor + 1; n < floor+span+2; n++ {
				w.close(n)
			}
			if x.Floor() != floor || x.Count() != span-1 {
				t.Errorf("Floor %d, Count %d, span %d", x.Floor(), x.Count(), span)
			}
			w.close(floor)
		}
	}
}

// TestEveryOrder: the same numbers in every order leave the same tomb.
func TestEveryOrder(t *testing.T) {
	for seed := range uint64(200) {
		order := draws.Shuffle(draws.New(seed), []int{1, 2, 3, 5, 6, 9, 10})
		x, _ := tomb.New(10)
		for _, n := range order {
			x.Close(n)
		}
		if x.Floor() != 4 || x.Count() != 4 || x.Closed(4) || x.Closed(7) || x.Closed(8) || !x.Closed(10) {
			t.Errorf("%v: Floor %d, Count %d", order, x.Floor(), x.Count())
		}
	}
}
