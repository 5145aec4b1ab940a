package sender

import (
	"iter"

	"nozzle/api"
	"nozzle/backoff"
	"nozzle/draws"
	"nozzle/perm"
	"nozzle/score"
	"nozzle/sendq"
)

// end is what a Sender does. It stands apart, or the calls of its queue would be the Sender's too, and let pieces in past Send and Close.
type end struct {
	*sendq.Queue
	line   api.Line // but for what the queue knows, which it would only repeat
	mtu    int
	first  int // how many numbers need no pull
	window int // how far the numbers that are sent go, from the queue's low end on
	timer  *backoff.Timer
	score  *score.Score
	paths  *perm.List
}

// newEnd is one without pieces, of settings and a line that may be.
func newEnd(c api.Conf, line api.Line) *end {
	e := &end{line: line, mtu: c.Mtu, first: c.First, window: c.Window}
	e.Queue, _ = sendq.New(c.Send)
	e.timer, _ = backoff.New(c.Rto, c.Cap)
	e.score, _ = score.New(c.Paths, c.Rest)
	e.paths, _ = perm.New(draws.Key(c.Seed, line.Src, line.Dst, line.Conn), e.score.Active()...)
	return e
}

// fork is another one like it.
func (e *end) fork() *end {
	other := *e
	other.Queue = e.Queue.Fork()
	other.timer = e.timer.Fork()
	other.score = e.score.Fork()
	other.paths = e.paths.Fork()
	return &other
}

// isOpen tells whether something is still to be sent, or to be acknowledged.
func (e *end) isOpen() bool { return e.Low() < e.Total() }

// accept lets pieces come, and sends what is allowed then.
func (e *end) accept(pieces ...api.Piece) ([]api.Packet, api.Errno) {
	if err := e.Add(pieces...); err != api.OK {
		return nil, err
	}
	return e.emit(e.allowed), api.OK
}

// ack lets a number be acknowledged.
func (e *end) ack(seq int) {
	low := e.Low()
	e.Ack(seq)
	if e.Low() > low {
		e.timer.Reset()
	}
}

// again lets a number be sent again, on the paths that are left.
func (e *end) again(seq int) {
	e.renew()
	e.Again(seq)
}

// renew leaves out the paths that are suspended.
func (e *end) renew() { e.paths.Renew(e.score.Active()...) }

// pull lets the number of a Pull come: one that comes late or twice changes nothing.
func (e *end) pull(n int) { e.line.Pulled = max(e.line.Pulled, n) }

// emit answers all that is to be emitted: what a call does ends with it, whether there is anything or not.
func (e *end) emit(packets iter.Seq[api.Packet]) []api.Packet {
	var out []api.Packet
	for p := range packets {
		out = append(out, p)
	}
	e.timer.Run(e.isOpen())
	return out
}

// allowed yields what may be sent without a timer.
func (e *end) allowed(yield func(api.Packet) bool) {
	for e.Next() < e.first {
		n, ok := e.Send()
		if !ok {
			break
		}
		if !yield(e.packet(n)) {
			return
		}
	}
	for e.line.Spent < e.line.Pulled {
		n, ok := e.paid()
		if !ok {
			return
		}
		e.line.Spent++
		if !yield(e.packet(n)) {
			return
		}
	}
}

// paid is the number that the next pull is for.
func (e *end) paid() (int, bool) {
	if n, ok := e.Repeat(); ok {
		return n, true
	}
	return e.fresh()
}

// fresh sends the next number, if the window has it.
func (e *end) fresh() (int, bool) {
	if e.Next() >= e.Low()+e.window {
		return 0, false
	}
	return e.Send()
}

// due yields what the timer sends at this tick.
func (e *end) due(yield func(api.Packet) bool) {
	if !e.timer.Tick() {
		return
	}
	n, ok := e.Low(), true
	if n == e.Next() { // all that was sent is acknowledged
		n, ok = e.fresh()
	}
	if ok {
		e.line.Timed++
		yield(e.packet(n))
	}
}

// packet is the data of a number, on the next path.
func (e *end) packet(n int) api.Packet {
	piece, _ := e.Piece(n)
	return api.Packet{
		Kind:    api.Data,
		Flags:   e.flags(n, piece),
		Path:    e.path(),
		Src:     e.line.Src,
		Dst:     e.line.Dst,
		Conn:    e.line.Conn,
		Seq:     n,
		Payload: piece.B,
	}
}

func (e *end) flags(n int, piece api.Piece) int {
	flags := 0
	if n < e.first {
		flags += api.First
	}
	if piece.End {
		flags += api.End
	}
	if piece.Fin {
		flags += api.Fin
	}
	if e.line.Class == 1 {
		flags += api.Urgent
	}
	return flags
}

// path is the next one of the list. What a round counted is forgotten when the next one begins: paths are judged round by round.
func (e *end) path() int {
	rounds := e.paths.Rounds()
	path := e.paths.Next()
	if e.paths.Rounds() > rounds {
		e.score.Clear()
	}
	return path
}
