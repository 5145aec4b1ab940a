package sendq_test

import (
	"bytes"
	"math"
	"slices"
	"testing"

	"nozzle/api"
	"nozzle/cut"
	"nozzle/draws"
	"nozzle/sendq"
)

// text is n bytes, which no other seed gives.
func text(seed uint64, n int) []byte {
	out := make([]byte, n)
	for i := range out {
		out[i] = byte(draws.At(seed, i))
	}
	return out
}

// piece is one that no other number gives: some without bytes, some with an end.
func piece(n int) api.Piece {
	return api.Piece{B: text(uint64(n), n%5), End: n%2 == 1, Fin: n%7 == 6}
}

// pieces are those of the numbers from on.
func pieces(from, count int) []api.Piece {
	var out []api.Piece
	for n := range count {
		out = append(out, piece(from+n))
	}
	return out
}

// copies are pieces that share no bytes with those given.
func copies(l []api.Piece) []api.Piece {
	out := slices.Clone(l)
	for i := range out {
		out[i].B = bytes.Clone(out[i].B)
	}
	return out
}

// notMade are Queues that neither New nor Fork made.
func notMade() map[string]*sendq.Queue {
	other, _ := sendq.New(5) // a Queue elsewhere makes nothing of these
	other.Add(pieces(0, 3)...)
	other.Send()
	other.Again(0)
	var zero sendq.Queue
	var none *sendq.Queue
	refused, _ := sendq.New(0)
	return map[string]*sendq.Queue{"nil": nil, "zero": {}, "new": new(sendq.Queue), "refused": refused, "its fork": zero.Fork(), "fork of nil": none.Fork()}
}

// outside are numbers that are far from all that a queue has.
func outside() []int {
	return []int{math.MinInt, math.MinInt + 1, -1 << 32, -4096, -2, -1, 1 << 32, 1<<32 + 1, 1 << 60, 1<<60 + 1, math.MaxInt - 1, math.MaxInt}
}

// model does slowly, as the document says it, what a Queue does.
type model struct {
	most   int
	pieces []api.Piece // all that there ever were
	next   int
	acked  map[int]bool
	repeat []int
}

func (m *model) low() int {
	for n := range m.next {
		if !m.acked[n] {
			return n
		}
	}
	return m.next
}

func (m *model) total() int { return len(m.pieces) }

func (m *model) room() int { return m.most - (m.total() - m.low()) }

func (m *model) lacks(n int) bool { return m.low() <= n && n <= m.next-1 && !m.acked[n] }

func (m *model) lacking() []int {
	var out []int
	for n := range m.next {
		if !m.acked[n] {
			out = append(out, n)
		}
	}
	return out
}

func (m *model) add(l []api.Piece) api.Errno {
	if m.total()-m.low()+len(l) > m.most {
		return api.ErrFull
	}
	m.pieces = append(m.pieces, copies(l)...)
	return api.OK
}

func (m *model) send() (int, bool) {
	if m.next >= m.total() {
		return 0, false
	}
	m.next++
	return m.next - 1, true
}

func (m *model) ack(n int) bool {
	if !m.lacks(n) {
		return false
	}
	m.acked[n] = true
	var left []int
	for _, x := range m.repeat {
		if x != n {
			left = append(left, x)
		}
	}
	m.repeat = left
	return true
}

func (m *model) again(n int) bool {
	for _, x := range m.repeat {
		if x == n {
			return false
		}
	}
	if !m.lacks(n) {
		return false
	}
	m.repeat = append(m.repeat, n)
	return true
}

func (m *model) repeated() (int, bool) {
	if len(m.repeat) == 0 {
		return 0, false
	}
	first := m.repeat[0]
	m.repeat = slices.Clone(m.repeat[1:])
	return first, true
}

func (m *model) fork() *model {
	acked := map[int]bool{}
	for n := range m.acked {
		acked[n] = true
	}
	return &model{m.most, copies(m.pieces), m.next, acked, slices.Clone(m.repeat)}
}

// pair is a Queue, and the model of it: each call goes to both.
type pair struct {
	t *testing.T
	q *sendq.Queue
	m *model
}

func made(t *testing.T, most int) *pair {
	t.Helper()
	q, e := sendq.New(most)
	if q == nil || e != api.OK {
		t.Fatalf("New(%d): %v, %d", most, q, e)
	}
	return &pair{t, q, &model{most: most, acked: map[int]bool{}}}
}

// sent is a pair with so many pieces, of which so many were sent.
func sent(t *testing.T, most, total, next int) *pair {
	t.Helper()
	p := made(t, most)
	p.more(total)
	for range next {
		p.send()
	}
	return p
}

func (p *pair) add(l []api.Piece) api.Errno {
	p.t.Helper()
	low, total := p.m.low(), p.m.total()
	got, want := p.q.Add(l...), p.m.add(l)
	if got != want {
		p.t.Errorf("Add of %d to %d to %d of %d: %d, not %d", len(l), low, total, p.m.most, got, want)
	}
	return got
}

// more adds so many pieces, one by one.
func (p *pair) more(count int) {
	p.t.Helper()
	for range count {
		p.add(pieces(p.m.total(), 1))
	}
}

func (p *pair) send() (int, bool) {
	p.t.Helper()
	got, ok := p.q.Send()
	if want, wantOk := p.m.send(); got != want || ok != wantOk {
		p.t.Errorf("Send: %d, %v, not %d, %v", got, ok, want, wantOk)
	}
	return got, ok
}

func (p *pair) ack(n int) bool {
	p.t.Helper()
	got, want := p.q.Ack(n), p.m.ack(n)
	if got != want {
		p.t.Errorf("Ack(%d): %v, not %v", n, got, want)
	}
	return got
}

func (p *pair) again(n int) bool {
	p.t.Helper()
	got, want := p.q.Again(n), p.m.again(n)
	if got != want {
		p.t.Errorf("Again(%d): %v, not %v", n, got, want)
	}
	return got
}

func (p *pair) repeat() (int, bool) {
	p.t.Helper()
	got, ok := p.q.Repeat()
	if want, wantOk := p.m.repeated(); got != want || ok != wantOk {
		p.t.Errorf("Repeat: %d, %v, not %d, %v", got, ok, want, wantOk)
	}
	return got, ok
}

func (p *pair) fork() *pair {
	p.t.Helper()
	f := p.q.Fork()
	if f == nil {
		p.t.Fatal("Fork: nil")
	}
	return &pair{p.t, f, p.m.fork()}
}

// counts asks the three numbers, the repeat list and the outstanding numbers.
func (p *pair) counts(what string) {
	p.t.Helper()
	q, m := p.q, p.m
	if q.Low() != m.low() || q.Next() != m.next || q.Total() != m.total() {
		p.t.Errorf("%s: Low %d, Next %d, Total %d, not %d, %d, %d", what, q.Low(), q.Next(), q.Total(), m.low(), m.next, m.total())
	}
	if row := q.Row(); !slices.Equal(row, m.repeat) {
		p.t.Errorf("%s: Row %v, not %v", what, row, m.repeat)
	}
	if got := slices.Collect(q.Lacking()); !slices.Equal(got, m.lacking()) {
		p.t.Errorf("%s: Lacking %v, not %v", what, got, m.lacking())
	}
}

// number asks what a number is.
func (p *pair) number(what string, n int) {
	p.t.Helper()
	if got, want := p.q.Lacks(n), p.m.lacks(n); got != want {
		p.t.Errorf("%s: Lacks(%d) %v, not %v", what, n, got, want)
	}
	var want api.Piece
	wantOk := p.m.low() <= n && n <= p.m.total()-1
	if wantOk {
		want = p.m.pieces[n]
	}
	if got, ok := p.q.Piece(n); ok != wantOk || !cut.Same(got, want) {
		p.t.Errorf("%s: Piece(%d) %v, %v, not %v, %v", what, n, got, ok, want, wantOk)
	}
}

// agree asks everything that a Queue tells without changing it, and forks of it what it has room for.
func (p *pair) agree(what string) {
	p.t.Helper()
	p.counts(what)
	for n := -2; n < p.m.total()+3; n++ {
		p.number(what, n)
	}
	for _, n := range outside() {
		p.number(what, n)
	}
	room := p.m.room()
	if e := p.q.Fork().Add(make([]api.Piece, room+1)...); e != api.ErrFull {
		p.t.Errorf("%s: Add of %d, one too many: %d", what, room+1, e)
	}
	if e := p.q.Fork().Add(make([]api.Piece, room)...); e != api.OK {
		p.t.Errorf("%s: Add of %d, as many as fit: %d", what, room, e)
	}
}

// P13.1: New, Add.

func TestNewTakesOneToMaxSend(t *testing.T) {
	for _, most := range []int{1, 2, 3, 255, 256, 257, 1024, 4095, 4096} {
		made(t, most).agree("new")
	}
	for _, most := range append(outside(), 0, -3, 4097, 4098, 5000, 65536, 1<<20, 1<<31) {
		if q, e := sendq.New(most); q != nil || e != api.ErrSendq {
			t.Errorf("New(%d): %v, %d", most, q, e)
		}
	}
}

func TestNewHasNoPieces(t *testing.T) {
	p := made(t, 3)
	p.agree("new")
	other := sent(t, 3, 3, 2)
	other.again(1)
	other.ack(0)
	p.agree("another was made")
	made(t, 3).agree("made later")
	if _, ok := p.send(); ok {
		t.Error("there is one to send")
	}
	if _, ok := p.repeat(); ok {
		t.Error("there is one to repeat")
	}
}

func TestExampleOfTheChapter(t *testing.T) {
	q, _ := sendq.New(2)
	if e := q.Add(api.Piece{B: []byte("a")}, api.Piece{B: []byte("b"), End: true}); e != api.OK {
		t.Error("Add:", e)
	}
	for want := range 2 {
		if n, ok := q.Send(); n != want || !ok {
			t.Error("Send:", n, ok)
		}
	}
	if !q.Ack(1) || q.Low() != 0 || !q.Lacks(0) || q.Lacks(1) {
		t.Error("after Ack(1):", q.Low(), q.Lacks(0), q.Lacks(1))
	}
	if !q.Ack(0) || q.Low() != 2 || q.Lacks(0) || q.Lacks(1) {
		t.Error("after Ack(0):", q.Low(), q.Lacks(0), q.Lacks(1))
	}
}

func TestAddAppendsInOrder(t *testing.T) {
	p := made(t, 100)
	for _, count := range []int{1, 0, 2, 3, 0, 10, 1, 50} {
		before := p.m.total()
		p.add(pieces(before, count))
		p.agree("added")
		if p.q.Total() != before+count {
			t.Errorf("Total %d, not %d", p.q.Total(), before+count)
		}
	}
}

func TestAddTakesAnyPieces(t *testing.T) {
	odd := []api.Piece{
		{}, {B: []byte{}}, {B: []byte{0}}, {B: []byte{0, 255}, End: true}, {End: true}, {Fin: true}, {End: true, Fin: true},
		{B: []byte("x"), Fin: true}, {B: text(1, 1024), End: true}, {B: text(2, 1025)}, {B: text(3, 70000)}, cut.Fin(), cut.Fin(),
	}
	p := made(t, len(odd)+1)
	for _, x := range odd {
		p.add([]api.Piece{x})
	}
	p.agree("odd pieces")
	for range odd {
		p.send()
	}
	p.agree("odd pieces, sent")
}

func TestAddUpToMost(t *testing.T) {
	for _, most := range []int{1, 2, 3, 7, 256, 4095, 4096} {
		for _, had := range []int{0, 1, most / 2, most - 1, most} {
			for _, over := range []int{0, 1, 2, 4096} {
				p := made(t, most)
				p.add(make([]api.Piece, had))
				want := api.OK
				if over > 0 {
					want = api.ErrFull
				}
				if e := p.add(make([]api.Piece, most-had+over)); e != want {
					t.Errorf("most %d, had %d, %d over: %d", most, had, over, e)
				}
				p.counts("added")
			}
		}
	}
}

func TestAddAllOrNothing(t *testing.T) {
	for had := range 6 {
		p := sent(t, 5, had, had/2)
		p.again(0)
		for count := 5 - had + 1; count < 9; count++ {
			if e := p.add(pieces(had, count)); e != api.ErrFull {
				t.Errorf("%d to %d of 5: %d", count, had, e)
			}
			p.agree("refused")
		}
		p.add(pieces(had, 5-had))
		p.agree("filled")
		if e := p.add(nil); e != api.OK {
			t.Error("Add of nothing to a full queue:", e)
		}
	}
}

// TestRoomIsCountedFromLow: what was sent and what was acknowledged above Low still takes room.
func TestRoomIsCountedFromLow(t *testing.T) {
	p := made(t, 4)
	p.more(4)
	for i := range 4 {
		p.send()
		if e := p.add(pieces(4, 1)); e != api.ErrFull {
			t.Errorf("after %d sent: %d", i+1, e)
		}
	}
	for _, n := range []int{3, 1, 2} {
		p.ack(n)
		if e := p.add(pieces(4, 1)); e != api.ErrFull {
			t.Errorf("after Ack(%d): %d", n, e)
		}
		p.agree("acknowledged above Low")
	}
	p.ack(0)
	p.agree("all acknowledged")
	if e := p.add(pieces(4, 4)); e != api.OK {
		t.Error("all are acknowledged:", e)
	}
	p.agree("all added anew")
	p.send()
	p.ack(4)
	if e := p.add(pieces(8, 2)); e != api.ErrFull {
		t.Error("one of room, two added:", e)
	}
	if e := p.add(pieces(8, 1)); e != api.OK {
		t.Error("one of room, one added:", e)
	}
	p.agree("one added")
}

func TestErrNilBeforeErrFull(t *testing.T) {
	for what, q := range notMade() {
		for _, count := range []int{0, 1, 2, 4096, 4097, 5000} {
			if e := q.Add(make([]api.Piece, count)...); e != api.ErrNil {
				t.Errorf("%s, Add of %d: %d", what, count, e)
			}
		}
	}
}

func TestAddKeepsAndChangesNoArgument(t *testing.T) {
	p := made(t, 10)
	room := text(1, 60)
	before := bytes.Clone(room)
	l := []api.Piece{{B: room[:20], End: true}, {B: room[10:30]}, {B: room[30:40], Fin: true}, {B: room[:0]}}
	given := copies(l)
	p.add(l[:3])
	p.add(l[3:])
	if !bytes.Equal(room, before) || !slices.EqualFunc(l, given, cut.Same) {
		t.Error("an argument changed:", l)
	}
	clear(room)
	clear(l)
	p.agree("the arguments are cleared")
}

// P13.2: Send, Ack.

func TestSendGoesOnUpToTotal(t *testing.T) {
	p := made(t, 9)
	for n := range 30 {
		if got, ok := p.send(); got != 0 || ok {
			t.Error("nothing to send:", got, ok)
		}
		p.more(1)
		if got, ok := p.send(); got != n || !ok {
			t.Errorf("Send %d: %d, %v", n, got, ok)
		}
		p.agree("sent")
		if n%3 == 2 {
			p.ack(n - 2)
			p.ack(n)
			p.ack(n - 1)
		}
	}
}

func TestSendOfAll(t *testing.T) {
	for _, total := range []int{0, 1, 2, 5, 255, 256, 257} {
		p := made(t, 4096)
		p.add(pieces(0, total))
		for n := range total {
			if got, ok := p.send(); got != n || !ok {
				t.Errorf("Send %d: %d, %v", n, got, ok)
			}
		}
		for range 3 {
			if got, ok := p.send(); got != 0 || ok {
				t.Error("all were sent:", got, ok)
			}
		}
		p.counts("all sent")
	}
}

// TestSendTakesNothingOffTheRepeatList: numbers that are repeated are not sent for the first time.
func TestSendTakesNothingOffTheRepeatList(t *testing.T) {
	p := sent(t, 6, 5, 3)
	p.again(2)
	p.again(0)
	for want := 3; want < 5; want++ {
		if n, ok := p.send(); n != want || !ok {
			t.Error(n, ok)
		}
		p.agree("sent beside the repeat list")
	}
	p.send()
	p.agree("nothing to send beside the repeat list")
}

func TestAckOfEachNumberOnce(t *testing.T) {
	for total := range 6 {
		for next := range total + 1 {
			for n := -2; n < total+3; n++ {
				p := sent(t, 5, total, next)
				if got := p.ack(n); got != (0 <= n && n < next) {
					t.Errorf("Ack(%d) of %d, %d sent: %v", n, total, next, got)
				}
				p.agree("acknowledged")
				if p.ack(n) {
					t.Errorf("Ack(%d) twice", n)
				}
				p.agree("acknowledged twice")
			}
		}
	}
}

func TestAckOfNumbersFarOutside(t *testing.T) {
	p := sent(t, 5, 4, 3)
	p.ack(0)
	p.again(2)
	for _, n := range outside() {
		if p.ack(n) || p.again(n) {
			t.Error("acknowledged or repeated:", n)
		}
	}
	p.agree("nothing was outside")
}

func TestAckMovesLowOverAllThatAre(t *testing.T) {
	p := sent(t, 8, 8, 6)
	for i, c := range []struct{ n, low int }{{1, 0}, {2, 0}, {4, 0}, {0, 3}, {3, 5}, {5, 6}} {
		if !p.ack(c.n) || p.q.Low() != c.low {
			t.Errorf("%d: after Ack(%d) Low %d, not %d", i, c.n, p.q.Low(), c.low)
		}
		p.agree("acknowledged")
	}
	for n := range 8 {
		if p.ack(n) {
			t.Error("acknowledged again:", n)
		}
	}
	for want := 6; want < 8; want++ {
		if n, ok := p.send(); n != want || !ok || p.q.Low() != 6 || !p.q.Lacks(n) {
			t.Error("sent behind Low:", n, ok, p.q.Low())
		}
	}
	p.agree("sent behind Low")
}

// TestAckRemovesFromTheRepeatList acknowledges each number of each order.
func TestAckRemovesFromTheRepeatList(t *testing.T) {
	for _, order := range orders(4) {
		for count := range 5 {
			for n := range 4 {
				p := sent(t, 4, 4, 4)
				for _, x := range order[:count] {
					p.again(x)
				}
				p.ack(n)
				p.agree("acknowledged")
				if slices.Contains(p.q.Row(), n) || len(p.q.Row()) != count-boolCount(slices.Contains(order[:count], n)) {
					t.Errorf("repeat list %v, Ack(%d): %v", order[:count], n, p.q.Row())
				}
				p.again(n)
				p.agree("acknowledged, and not again")
			}
		}
	}
}

func boolCount(b bool) int {
	if b {
		return 1
	}
	return 0
}

// orders are all orders of 0 to n-1.
func orders(n int) [][]int {
	if n == 0 {
		return [][]int{nil}
	}
	var out [][]int
	for _, l := range orders(n - 1) {
		for at := range n {
			out = append(out, slices.Insert(slices.Clone(l), at, n-1))
		}
	}
	return out
}

// P13.3: Again, Repeat, Row.

func TestAgainAppends(t *testing.T) {
	for _, order := range orders(5) {
		p := sent(t, 6, 6, 5)
		for i, n := range order {
			if !p.again(n) || p.again(n) {
				t.Error("Again:", n)
			}
			if !slices.Equal(p.q.Row(), order[:i+1]) {
				t.Errorf("Row %v, not %v", p.q.Row(), order[:i+1])
			}
		}
		p.agree("all are to be repeated")
		for i, n := range order {
			if got, ok := p.repeat(); got != n || !ok || !slices.Equal(p.q.Row(), order[i+1:]) {
				t.Errorf("Repeat: %d, %v, then %v of %v", got, ok, p.q.Row(), order)
			}
		}
		for range 2 {
			if got, ok := p.repeat(); got != 0 || ok {
				t.Error("nothing is left:", got, ok)
			}
		}
		p.agree("all were repeated")
	}
}

func TestAgainOfOutstandingNumbersAlone(t *testing.T) {
	for total := range 6 {
		for next := range total + 1 {
			for acked := range 1 << next {
				p := sent(t, 5, total, next)
				for n := range next {
					if acked>>n%2 == 1 {
						p.ack(n)
					}
				}
				for n := -2; n < total+3; n++ {
					if got := p.again(n); got != (0 <= n && n < next && acked>>n%2 == 0) {
						t.Errorf("Again(%d) of %d, %d sent, acknowledged %b: %v", n, total, next, acked, got)
					}
				}
				p.agree("all again")
			}
		}
	}
}

// TestRepeatedNumbersAreStillOutstanding: they may be repeated once more, and be acknowledged.
func TestRepeatedNumbersAreStillOutstanding(t *testing.T) {
	p := sent(t, 4, 4, 3)
	for round := range 4 {
		for _, n := range []int{2, 0, 1} {
			if !p.again(n) {
				t.Errorf("round %d: not again: %d", round, n)
			}
		}
		for _, n := range []int{2, 0} {
			if got, ok := p.repeat(); got != n || !ok || !p.q.Lacks(n) {
				t.Errorf("round %d: %d, %v, not %d", round, got, ok, n)
			}
		}
		if !p.again(2) || p.again(1) || !slices.Equal(p.q.Row(), []int{1, 2}) {
			t.Errorf("round %d: Row %v", round, p.q.Row())
		}
		p.agree("between")
		p.repeat()
		p.repeat()
		p.agree("repeated")
	}
	p.again(2)
	p.repeat()
	if !p.ack(2) || p.again(2) {
		t.Error("a repeated number is acknowledged as others are")
	}
	p.agree("acknowledged")
}

// TestZeroIsANumberToRepeat: 0 and true is not 0 and false.
func TestZeroIsANumberToRepeat(t *testing.T) {
	p := sent(t, 2, 2, 2)
	p.again(0)
	if n, ok := p.repeat(); n != 0 || !ok {
		t.Error(n, ok)
	}
	if n, ok := p.repeat(); n != 0 || ok {
		t.Error(n, ok)
	}
}

func TestRowSharesNothing(t *testing.T) {
	p := sent(t, 8, 8, 8)
	for n := range 5 {
		p.again(n)
	}
	first, second := p.q.Row(), p.q.Row()
	_ = append(first, 70, 71, 72)
	clear(first[:cap(first)])
	if !slices.Equal(second, []int{0, 1, 2, 3, 4}) {
		t.Error("a Row changed with another:", second)
	}
	p.agree("a Row is cleared")
	p.again(6)
	p.ack(1)
	p.repeat()
	if !slices.Equal(second, []int{0, 1, 2, 3, 4}) {
		t.Error("a Row changed with the queue:", second)
	}
	p.agree("behind a Row")
	if row := sent(t, 2, 2, 2).q.Row(); len(row) != 0 {
		t.Error("empty:", row)
	}
}

// P13.4: the others.

func TestPieceFromLowToTotal(t *testing.T) {
	p := sent(t, 12, 9, 6)
	p.ack(0)
	p.ack(1)
	p.ack(4)
	p.agree("acknowledged and not sent")
	for n := -1; n < 11; n++ {
		x, ok := p.q.Piece(n)
		if ok != (2 <= n && n < 9) || ok && !cut.Same(x, piece(n)) || !ok && (len(x.B) > 0 || x.End || x.Fin) {
			t.Errorf("Piece(%d): %v, %v", n, x, ok)
		}
	}
}

func TestPieceSharesNothing(t *testing.T) {
	p := made(t, 5)
	p.add([]api.Piece{{B: text(1, 20)}, {B: text(2, 20), End: true}})
	p.send()
	for n := range 2 {
		first, _ := p.q.Piece(n)
		second, _ := p.q.Piece(n)
		before := p.q.Fork()
		_ = append(first.B, 1, 2, 3)
		clear(first.B[:cap(first.B)])
		first.End, first.Fin = !first.End, true
		if !cut.Same(second, p.m.pieces[n]) {
			t.Error("a piece changed with another:", second)
		}
		p.agree("a piece is cleared")
		(&pair{t, before, p.m}).agree("a piece is cleared, fork")
	}
}

func TestLackingIsRangedOverAsFarAsOneLikes(t *testing.T) {
	p := sent(t, 12, 11, 9)
	for _, n := range []int{0, 3, 4, 7} {
		p.ack(n)
	}
	want := []int{1, 2, 5, 6, 8}
	lacking := p.q.Lacking()
	for most := range len(want) + 1 {
		var got []int
		for n := range lacking {
			if len(got) == most {
				break
			}
			got = append(got, n)
		}
		if !slices.Equal(got, want[:most]) {
			t.Errorf("the first %d: %v", most, got)
		}
	}
	var both []int
	for a := range lacking {
		for b := range lacking {
			both = append(both, a*10+b)
		}
	}
	if len(both) != 25 || both[0] != 11 || both[6] != 22 || both[24] != 88 {
		t.Error("within each other:", both)
	}
	p.agree("ranged over")
}

// TestLackingYieldsWhatWasSo changes the queue before it is ranged over, and meanwhile.
func TestLackingYieldsWhatWasSo(t *testing.T) {
	p := sent(t, 9, 9, 6)
	p.ack(2)
	before := p.q.Lacking()
	p.send()
	p.ack(0)
	meanwhile := p.q.Lacking()
	var got []int
	for n := range meanwhile {
		got = append(got, n)
		p.send()
		p.ack(n)
		p.ack(n + 1)
		p.more(1)
	}
	if !slices.Equal(got, []int{1, 3, 4, 5, 6}) {
		t.Error("changed meanwhile:", got)
	}
	if got := slices.Collect(before); !slices.Equal(got, []int{0, 1, 3, 4, 5}) {
		t.Error("changed before:", got)
	}
	p.agree("changed")
}

func TestLackingYieldsNothing(t *testing.T) {
	p := made(t, 3)
	for _, what := range []string{"new", "added", "acknowledged"} {
		for n := range p.q.Lacking() {
			t.Errorf("%s: %d", what, n)
		}
		switch what {
		case "new":
			p.more(2)
		case "added":
			p.send()
			p.ack(0)
		}
	}
}

func TestForkGoesItsOwnWay(t *testing.T) {
	for total := range 6 {
		for next := range total + 1 {
			p := sent(t, 7, total, next)
			p.again(next - 1)
			p.again(0)
			p.ack(1)
			f := p.fork()
			f.agree("fork")
			p.add([]api.Piece{{B: []byte("1")}})
			f.add([]api.Piece{{B: []byte("22"), End: true}})
			p.agree("each added")
			f.agree("each added, fork")
			g := f.fork()
			f.send()
			f.ack(0)
			g.repeat()
			p.again(next - 2)
			p.agree("each changed")
			f.agree("each changed, fork")
			g.agree("each changed, its fork")
			g.again(2)
			p.ack(2)
			f.repeat()
			g.send()
			p.agree("each changed again")
			f.agree("each changed again, fork")
			g.agree("each changed again, its fork")
		}
	}
}

// TestForksBesideEachOther changes all by turns, so that lists with room behind their ends would be shared.
func TestForksBesideEachOther(t *testing.T) {
	p := sent(t, 200, 60, 40)
	for i := range 40 {
		f, g := p.fork(), p.fork()
		for k := range 3 {
			f.add([]api.Piece{{B: []byte{1, byte(k)}}})
			p.add([]api.Piece{{B: []byte{2, byte(i)}}})
			g.add([]api.Piece{{B: []byte{3}, End: true}})
			f.again(39 - i)
			p.again(i)
			g.again((i + k) % 40)
			f.ack(i + k)
			g.ack(39 - k)
			g.repeat()
		}
		f.agree("fork")
		g.agree("other fork")
		p.agree("itself")
	}
}

func TestNotMade(t *testing.T) {
	for what, q := range notMade() {
		for range 2 { // nor does any call make it one
			for _, n := range append(outside(), 0, 1, 2, 3) {
				x, ok := q.Piece(n)
				if ok || len(x.B) > 0 || x.End || x.Fin || q.Lacks(n) || q.Ack(n) || q.Again(n) {
					t.Errorf("%s: Piece(%d) %v, %v, Lacks %v", what, n, x, ok, q.Lacks(n))
				}
			}
			if n, ok := q.Send(); n != 0 || ok {
				t.Errorf("%s: Send %d, %v", what, n, ok)
			}
			if n, ok := q.Repeat(); n != 0 || ok {
				t.Errorf("%s: Repeat %d, %v", what, n, ok)
			}
			if q.Low() != 0 || q.Next() != 0 || q.Total() != 0 || len(q.Row()) != 0 {
				t.Errorf("%s: %d, %d, %d, %v", what, q.Low(), q.Next(), q.Total(), q.Row())
			}
			for n := range q.Lacking() {
				t.Errorf("%s: Lacking %d", what, n)
			}
			if f := q.Fork(); f != nil {
				t.Errorf("%s: Fork %v", what, f)
			}
			if e := q.Add(piece(1)); e != api.ErrNil {
				t.Errorf("%s: Add %d", what, e)
			}
		}
	}
}

// TestACopiedValueDoesNotPanic: what it answers is not said, but it answers.
func TestACopiedValueDoesNotPanic(t *testing.T) {
	for next := range 6 {
		p := sent(t, 6, 6, next)
		for n := range next {
			p.again(n)
		}
		other := *p.q
		for n := range 8 {
			p.q.Ack(n)
			other.Ack(n ^ 1)
			p.q.Add(piece(n))
			other.Add(piece(n + 1))
			p.q.Repeat()
			other.Again(n)
			p.q.Send()
			other.Send()
			other.Repeat()
			other.Fork().Piece(n)
			p.q.Fork().Piece(n)
		}
	}
}

// P13.5: completion.

func TestInWhateverOrderAllAreAcknowledged(t *testing.T) {
	for total := range 8 {
		for _, order := range orders(total) {
			p := sent(t, 7, total, total)
			for i, n := range order {
				if complete := p.q.Low() == p.q.Total(); complete != (i == total) {
					t.Errorf("%d of %v: Low %d", i, order, p.q.Low())
				}
				if !p.q.Ack(n) || p.q.Lacks(n) || p.q.Ack(n) {
					t.Errorf("Ack(%d) of %v", n, order)
				}
			}
			for n := range p.q.Lacking() {
				t.Errorf("%v: still outstanding: %d", order, n)
			}
			if q := p.q; q.Low() != total || q.Next() != total || q.Total() != total {
				t.Errorf("%v: %d, %d, %d", order, q.Low(), q.Next(), q.Total())
			}
		}
	}
}

func TestInWhateverOrderManyAreAcknowledged(t *testing.T) {
	for seed := range uint64(10) {
		q, _ := sendq.New(4096)
		all := make([]int, 4096)
		for i := range all {
			all[i] = i
		}
		q.Add(make([]api.Piece, 4096)...)
		for range all {
			q.Send()
		}
		for _, n := range draws.Shuffle(draws.New(seed), all) {
			if q.Low() == 4096 || !q.Again(n) && !slices.Contains(q.Row(), n) || !q.Ack(n) {
				t.Fatalf("seed %d: Ack(%d), Low %d", seed, n, q.Low())
			}
		}
		if q.Low() != 4096 || q.Next() != 4096 || q.Total() != 4096 || len(q.Row()) != 0 {
			t.Errorf("seed %d: %d, %d, %d, %v", seed, q.Low(), q.Next(), q.Total(), q.Row())
		}
		if q.Add(make([]api.Piece, 4097)...) != api.ErrFull || q.Add(make([]api.Piece, 4096)...) != api.OK || q.Total() != 8192 {
			t.Errorf("seed %d: no room for as many: %d", seed, q.Total())
		}
	}
}

// P13.6: bound.

// bounded tells whether what is kept is within what may be kept.
func bounded(q *sendq.Queue, most int) bool {
	return q.Total()-q.Low() <= most && len(q.Row()) <= most && q.Low() <= q.Next() && q.Next() <= q.Total()
}

func TestAllAreToBeRepeated(t *testing.T) {
	for _, most := range []int{1, 2, 5, 300} {
		p := sent(t, most, most, most)
		for range 3 {
			for n := -1; n < most+2; n++ {
				p.again(n)
			}
		}
		if len(p.q.Row()) != most || !bounded(p.q, most) {
			t.Errorf("most %d: %d are to be repeated", most, len(p.q.Row()))
		}
		p.agree("all are to be repeated")
		for n := range most {
			p.ack(n)
			if !bounded(p.q, most) {
				t.Errorf("most %d: %d to %d, %d are to be repeated", most, p.q.Low(), p.q.Total(), len(p.q.Row()))
			}
		}
		p.agree("all are acknowledged")
	}
}

// numbered is a number near those that a queue has.
func (p *pair) numbered(x int) int { return p.m.low() - 2 + x%(p.m.total()-p.m.low()+5) }

// does calls one of a Queue's calls.
func (p *pair) does(what, x int) {
	p.t.Helper()
	switch what % 8 {
	case 0:
		p.add(pieces(p.m.total(), x%(p.m.most+2)))
	case 1:
		p.more(min(p.m.room(), x%3))
	case 2, 3:
		p.send()
	case 4:
		p.ack(p.numbered(x))
	case 5:
		p.ack(p.m.low())
	case 6:
		p.again(p.numbered(x))
	case 7:
		p.repeat()
	}
}

func TestAnyCallsAgree(t *testing.T) {
	for seed := range uint64(150) {
		s := draws.New(seed)
		most := []int{1, 2, 3, 5, 8, 40}[s.Below(6)]
		p := made(t, most)
		for range 120 {
			before := p
			if s.Below(12) == 0 {
				p = p.fork()
			}
			p.does(s.Below(8), s.Below(1000))
			if !bounded(p.q, most) {
				t.Fatalf("seed %d: %d to %d of %d, %d are to be repeated", seed, p.q.Low(), p.q.Total(), most, len(p.q.Row()))
			}
			p.agree("any calls")
			if p != before {
				before.agree("any calls to its fork")
			}
		}
		if t.Failed() {
			t.Fatalf("seed %d", seed)
		}
	}
}

// TestLongLives goes on for many windows, and asks near the window alone.
func TestLongLives(t *testing.T) {
	q, _ := sendq.New(4096)
	for base := 0; base < 20000; base += 1000 {
		if e := q.Add(pieces(base, 1000)...); e != api.OK {
			t.Fatal(base, e)
		}
		for n := base; n < base+1000; n++ {
			if got, ok := q.Send(); got != n || !ok {
				t.Fatal(n, got, ok)
			}
		}
		for n := base + 999; n > base; n-- {
			q.Ack(n)
		}
		if x, ok := q.Piece(base + 500); q.Low() != base || !ok || !cut.Same(x, piece(base+500)) {
			t.Fatal(base, q.Low(), x, ok)
		}
		if _, ok := q.Piece(base - 1); !q.Ack(base) || q.Low() != base+1000 || ok {
			t.Fatal(base, q.Low(), ok)
		}
	}
}

// FuzzQueueAgrees holds any calls against the model.
func FuzzQueueAgrees(f *testing.F) {
	f.Add(byte(3), []byte{0, 2, 2, 0, 2, 0, 6, 1, 4, 2, 7, 0})
	f.Add(byte(0), []byte{0, 1, 2, 0, 5, 0, 0, 1, 2, 0, 6, 2, 7, 0, 8, 0})
	f.Add(byte(20), []byte{0, 9, 2, 0, 3, 0, 2, 0, 6, 3, 6, 4, 4, 3, 8, 0, 5, 0, 7, 0, 1, 2})
	f.Fuzz(func(t *testing.T, most byte, calls []byte) {
		p := made(t, int(most)%32+1)
		kept := []*pair{p}
		for i := 0; i+1 < len(calls) && i < 200; i += 2 {
			if calls[i]%9 == 8 && len(kept) < 5 {
				kept = append(kept, p.fork())
				p = kept[int(calls[i+1])%len(kept)]
				continue
			}
			p.does(int(calls[i]%9), int(calls[i+1]))
			p.counts("fuzz")
			if !bounded(p.q, p.m.most) {
				t.Errorf("%d to %d of %d, %d are to be repeated", p.q.Low(), p.q.Total(), p.m.most, len(p.q.Row()))
			}
		}
		for _, p := range kept {
			p.agree("fuzz")
		}
	})
}
