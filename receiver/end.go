package receiver

import (
	"bytes"

	"nozzle/api"
	"nozzle/bitmap"
	"nozzle/join"
)

// end is what a Receiver does. It stands apart, or the calls of its bitmap would be the Receiver's too, and let numbers in past Take.
type end struct {
	*bitmap.Bitmap                   // of what is present: its base is Next, and what of its window is set is kept
	line           api.Line          // but for Next
	paths          int               // over which the pulls go
	pieces         map[int]api.Piece // those that are kept
	parts          *join.Join
}

// newEnd is one to which nothing came, of settings and a line that may be.
func newEnd(c api.Conf, line api.Line) *end {
	e := &end{line: line, paths: c.Paths, pieces: map[int]api.Piece{}, parts: join.New()}
	e.Bitmap, _ = bitmap.New(c.Window, 0)
	return e
}

// fork is another one like it.
func (e *end) fork() *end {
	other := *e
	other.Bitmap = e.Bitmap.Fork()
	other.parts = e.parts.Fork()
	other.pieces = map[int]api.Piece{}
	for n, piece := range e.kept {
		piece.B = bytes.Clone(piece.B)
		other.pieces[n] = piece
	}
	return &other
}

// isInWindow tells whether a number, which is not below it, is in the window.
func (e *end) isInWindow(n int) bool { return n-e.Base() < e.Size() }

// kept yields the numbers that are kept, in increasing order, with their pieces.
func (e *end) kept(yield func(int, api.Piece) bool) {
	for i := range e.Size() {
		n := e.Base() + i
		if e.Has(n) && !yield(n, e.pieces[n]) {
			return
		}
	}
}

// keep keeps what came with a number that is in the window.
func (e *end) keep(p api.Packet) {
	e.Set(p.Seq)
	e.pieces[p.Seq] = api.Piece{B: bytes.Clone(p.Payload), End: has(p.Flags, api.End), Fin: has(p.Flags, api.Fin)}
}

// advance takes what is kept up to the first number that is lacking, and answers the messages that are whole by it.
func (e *end) advance() [][]byte {
	var out [][]byte
	next := e.Base()
	for n, piece := range e.kept {
		if n != next {
			break
		}
		next++
		delete(e.pieces, n)
		if piece.Fin {
			e.finish(next)
			break
		}
		if m, isWhole, _ := e.parts.Add(piece.B, piece.End); isWhole {
			out = append(out, m)
		}
	}
	e.Advance()
	return out
}

// finish lets go of all that came behind the end, and of a message without one: nothing will complete it.
func (e *end) finish(next int) {
	e.line.Done = true
	e.line.Pending = 0
	e.Bitmap, _ = bitmap.New(e.Size(), next)
	e.pieces = nil
	e.parts.Reset()
}

// answer is what a packet that came is answered, on the path on which it came.
func (e *end) answer(kind api.Kind, p api.Packet) []api.Packet {
	a := e.back(kind, p.Path)
	a.Seq = p.Seq
	return []api.Packet{a}
}

// pull is the next one of those that are owed. The pulls go over all paths by turns, as their numbers do.
func (e *end) pull() api.Packet {
	p := e.back(api.Pull, e.line.Pulled%e.paths)
	e.line.Pending--
	e.line.Pulled++
	p.Pull = e.line.Pulled
	return p
}

// back is a packet that goes back to the sender.
func (e *end) back(kind api.Kind, path int) api.Packet {
	return api.Packet{Kind: kind, Path: path, Src: e.line.Dst, Dst: e.line.Src, Conn: e.line.Conn}
}
