package tomb_test

import (
	"slices"
	"testing"

	"nozzle/api"
	"nozzle/tomb"
)

// notMade are tombs that neither New nor Fork made.
func notMade() map[string]*tomb.Tomb {
	other, _ := tomb.New(5) // a tomb elsewhere makes nothing of these
	other.Close(1)
	other.Close(3)
	var zero tomb.Tomb
	var none *tomb.Tomb
	refused, _ := tomb.New(65)
	return map[string]*tomb.Tomb{"nil": nil, "zero": {}, "new": new(tomb.Tomb), "refused": refused, "its fork": zero.Fork(), "fork of nil": none.Fork()}
}

// P20.1: New, Close, Closed, May.

func TestNewEverySpan(t *testing.T) {
	for span := 1; span <= 64; span++ {
		p := newPair(t, span)
		if p.x.Floor() != 1 || p.x.Count() != 0 || p.x.Closed(1) || len(p.x.Open(1000)) != span {
			t.Errorf("New(%d): Floor %d, Count %d, Open %v", span, p.x.Floor(), p.x.Count(), p.x.Open(1000))
		}
		p.agree("new")
	}
}

func TestNewRefusesOtherSpans(t *testing.T) {
	for _, span := range notSpans {
		if x, e := tomb.New(span); x != nil || e != api.ErrTomb {
			t.Errorf("New(%d): %v, %d", span, x, e)
		}
	}
}

func TestExampleOfTheDocument(t *testing.T) {
	x, _ := tomb.New(4)
	for _, n := range []int{2, 1} {
		if wasOpen, e := x.Close(n); !wasOpen || e != api.OK {
			t.Errorf("Close(%d): %v, %d", n, wasOpen, e)
		}
	}
	if x.Floor() != 3 || !slices.Equal(x.Open(9), []int{3, 4, 5, 6}) {
		t.Errorf("Floor %d, Open %v", x.Floor(), x.Open(9))
	}
	for n := -1; n <= 8; n++ {
		if x.May(n) != (n >= 3 && n <= 6) || x.Closed(n) != (n == 1 || n == 2) {
			t.Errorf("%d: May %v, Closed %v", n, x.May(n), x.Closed(n))
		}
	}
}

func TestCloseTellsOnce(t *testing.T) {
	p := newPair(t, 8)
	p.close(3, 3, 1, 1, 3, 2, 2, 1, 3, 11, 11)
	p.agree("some twice")
	if p.x.Floor() != 4 {
		t.Error(p.x.Floor())
	}
}

func TestCloseAtTheSpansEdges(t *testing.T) {
	for _, span := range []int{1, 2, 3, 8, 63, 64} {
		for _, before := range []int{0, 1, 2, 63, 64, 65, 200, 255, 256, 257} {
			p := newPair(t, span)
			for n := 1; n <= before; n++ {
				p.close(n)
			}
			p.close(before+span+1, before+span+2, before+span+64, before+span+256, before+span+1<<20)
			p.agree("refused")
			p.close(before+span, before+span)
			p.agree("the last one of the span")
			p.close(before, before+span+1)
			p.agree("below, and beyond")
		}
	}
}

func TestCloseRefusesWhatIsNoNumber(t *testing.T) {
	for span := 1; span <= 64; span++ {
		p := newPair(t, span)
		p.close(1, 3)
		for _, n := range nowhere {
			if wasOpen, e := p.x.Close(n); wasOpen || e != api.ErrRange {
				t.Errorf("Close(%d): %v, %d", n, wasOpen, e)
			}
			if p.x.Closed(n) || p.x.May(n) {
				t.Errorf("%d: Closed %v, May %v", n, p.x.Closed(n), p.x.May(n))
			}
		}
		p.agree("nothing changed")
	}
}

func TestTheFloorAdvancesOverAllThatIsClosed(t *testing.T) {
	for span := 1; span <= 64; span++ {
		p := newPair(t, span)
		for n := span; n > 1; n-- {
			p.close(n)
			if p.x.Floor() != 1 || p.x.Count() != span-n+1 {
				t.Errorf("Floor %d, Count %d after Close(%d)", p.x.Floor(), p.x.Count(), n)
			}
		}
		p.close(1)
		if p.x.Floor() != span+1 || p.x.Count() != 0 {
			t.Errorf("Floor %d, Count %d of span %d", p.x.Floor(), p.x.Count(), span)
		}
		p.agree("all of the span")
	}
}

func TestALongLife(t *testing.T) {
	p := newPair(t, 64)
	for n := 1; n <= 4000; n += 2 {
		p.close(n+1, n)
		if n%997 == 0 {
			p.agree("on the way")
		}
	}
	p.agree("far on")
}

// TestTheLastNumbers: the span goes beyond the last number that a connection may have.
func TestTheLastNumbers(t *testing.T) {
	for _, span := range []int{1, 2, 3, 5, 63, 64} {
		for left := 0; left <= 66; left++ {
			p := pairAt(t, span, 1<<30+1-left)
			p.agree("near the end")
			p.close(1<<30+1, 1<<30+2, 1<<30+1-left+span)
			p.agree("refused")
			for i := range left {
				p.close(1<<30 - i)
			}
			p.agree("the last ones, if the span has them")
			for n := p.m.floor(); n <= 1<<30; n++ {
				p.close(n)
			}
			p.agree("all")
			if p.x.Floor() != 1<<30+1 || p.x.Count() != 0 || len(p.x.Open(9)) != 0 {
				t.Errorf("Floor %d, Count %d, Open %v", p.x.Floor(), p.x.Count(), p.x.Open(9))
			}
		}
	}
}

// P20.2: Floor, Count, Open, Fork.

func TestFloorAndCount(t *testing.T) {
	x, _ := tomb.New(6)
	for i, c := range []struct{ n, floor, count int }{{4, 1, 1}, {6, 1, 2}, {2, 1, 3}, {7, 1, 3}, {1, 3, 2}, {8, 3, 3}, {3, 5, 2}, {5, 7, 1}, {0, 7, 1}, {7, 9, 0}, {9, 10, 0}} {
		x.Close(c.n)
		if x.Floor() != c.floor || x.Count() != c.count {
			t.Errorf("%d: Floor %d, Count %d after Close(%d)", i, x.Floor(), x.Count(), c.n)
		}
	}
}

func TestOpenAsMany(t *testing.T) {
	p := newPair(t, 7)
	p.close(1, 3, 4, 7)
	all := []int{2, 5, 6, 8}
	for most := -3; most <= 9; most++ {
		if got, want := p.x.Open(most), all[:max(0, min(most, len(all)))]; !slices.Equal(got, want) {
			t.Errorf("Open(%d): %v, not %v", most, got, want)
		}
	}
	p.agree("with gaps")
}

func TestOpenIsNewMemory(t *testing.T) {
	p := newPair(t, 5)
	p.close(2)
	one, other := p.x.Open(4), p.x.Open(4)
	clear(one[:cap(one)])
	if !slices.Equal(other, []int{1, 3, 4, 5}) {
		t.Error(other)
	}
	p.agree("an answer that was written")
}

func TestForksGoTheirOwnWay(t *testing.T) {
	for _, span := range []int{1, 2, 5, 64} {
		p := newPair(t, span)
		p.close(span, 1)
		q := p.fork()
		q.agree("as it was")
		r := q.fork()
		p.close(p.x.Floor(), p.x.Floor()+span-1)
		q.agree("the other one went on")
		q.close(q.x.Floor())
		q.close(q.x.Floor())
		p.agree("its fork went on")
		q.agree("it went on")
		r.agree("both went on")
		r.close(r.x.Floor() + span - 1)
		p.agree("a fork of its fork went on")
		q.agree("its fork went on too")
	}
}

func TestTombsThatNobodyMade(t *testing.T) {
	for what, x := range notMade() {
		for _, n := range append([]int{1, 2, 64, 1 << 30}, nowhere...) {
			if wasOpen, e := x.Close(n); wasOpen || e != api.ErrNil {
				t.Errorf("%s: Close(%d): %v, %d", what, n, wasOpen, e)
			}
			if x.Closed(n) || x.May(n) || len(x.Open(n)) != 0 {
				t.Errorf("%s: %d: Closed %v, May %v, Open %v", what, n, x.Closed(n), x.May(n), x.Open(n))
			}
		}
		if x.Floor() != 0 || x.Count() != 0 || x.Fork() != nil {
			t.Errorf("%s: Floor %d, Count %d, Fork %v", what, x.Floor(), x.Count(), x.Fork())
		}
	}
}

func TestATombCopiedAsAValue(t *testing.T) {
	p := newPair(t, 3)
	p.close(2)
	value := *p.x
	value.Close(1)
	if value.Floor() != 3 {
		t.Error(value.Floor())
	}
	p.agree("its copy went on")
}
