package receiver_test

import (
	"bytes"
	"math"
	"slices"
	"strings"
	"testing"

	"nozzle/api"
	"nozzle/cut"
	"nozzle/wire"
)

// P19.2: Take.

// orders are all orders of the numbers below n.
func orders(n int) [][]int {
	if n == 0 {
		return [][]int{nil}
	}
	var out [][]int
	for _, l := range orders(n - 1) {
		for at := range n {
			out = append(out, slices.Insert(slices.Clone(l), at, n-1))
		}
	}
	return out
}

func TestExampleOfTheChapter(t *testing.T) {
	p := made(t, 2, 3)
	a, messages := p.take(data(0, api.End, "a"))
	if !are(a, api.Ack, 0) || !sames(messages, [][]byte{[]byte("a")}) {
		t.Errorf("%v, %q", a, messages)
	}
	a, messages = p.take(data(0, api.End, "a"))
	if !are(a, api.Ack, 0) || messages != nil || p.r.Line().Arrived != 1 {
		t.Errorf("again: %v, %q", a, messages)
	}
}

// TestAnswerHasNothingElse: whose packet it was is not examined, so the answer is of the receiver's own connection.
func TestAnswerHasNothingElse(t *testing.T) {
	for _, path := range append(outside(), 0, 1, 2, 7, 8) {
		for _, flags := range []int{0, 1, 8, 9, 32, 63 - 16 - 4, 1 << 20, -1, -16, math.MinInt} {
			x := api.Packet{Kind: api.Data, Flags: flags, Path: path, Src: 99, Dst: -5, Conn: 1 << 40, Seq: 2, Pull: 17, Payload: []byte("x")}
			p := madeFor(t, conf(2, 3), 6, 3, 77, 0)
			want := api.Packet{Kind: api.Ack, Path: path, Src: 3, Dst: 6, Conn: 77, Seq: 2}
			if flags > 0 && flags&8 != 0 {
				want.Kind = api.Nack
			}
			if a, _ := p.take(x); len(a) != 1 || !wire.Same(a[0], want) {
				t.Errorf("path %d, flags %d: %+v, not %+v", path, flags, a, want)
			}
			want.Kind = api.Ack
			p.take(data(2, 0, "y"))
			if a, _ := p.take(x); len(a) != 1 || !wire.Same(a[0], want) {
				t.Errorf("path %d, flags %d, again: %+v, not %+v", path, flags, a, want)
			}
		}
	}
}

// TestAnswerIsAPacket: what is answered to a packet goes through the fabric as it is.
func TestAnswerIsAPacket(t *testing.T) {
	p := madeFor(t, conf(8, 256), 7, 0, api.MaxConn, 1)
	for n := range 30 {
		for _, flags := range []int{8, 0, 0, 4 * (n / 29)} {
			a, _ := p.take(api.Packet{Kind: api.Data, Flags: flags, Path: n % 8, Src: 7, Conn: api.MaxConn, Seq: n, Payload: []byte("x")})
			for _, x := range a {
				if e := wire.Check(x); e != api.OK {
					t.Errorf("%+v: %d", x, e)
				}
			}
		}
	}
}

// begun is a receiver that lacks 2, keeps 3 and 5, and has an open part.
func begun(t *testing.T) *pair {
	t.Helper()
	p := made(t, 3, 6)
	p.takes(data(0, api.End, "a"), data(1, 0, "b"), data(3, api.End, "d"), data(5, 0, "f"), data(4, api.Trimmed, ""))
	return p
}

// nothing holds that a packet is not answered, and changes nothing.
func (p *pair) nothing(x api.Packet) {
	p.t.Helper()
	line, kept := p.r.Line(), p.r.Kept()
	a, messages := p.take(x)
	if a != nil || messages != nil || p.r.Line() != line || !slices.Equal(p.r.Kept(), kept) {
		p.t.Errorf("%+v: %v, %q, %+v", x, a, messages, p.r.Line())
	}
}

func TestAnythingButData(t *testing.T) {
	for _, done := range []bool{false, true} {
		p := begun(t)
		if done {
			p.takes(data(2, 0, "c"), data(4, api.Fin, ""))
		}
		for _, kind := range append(outside(), 0, 2, 3, 4, 5, 17) {
			for seq := range 8 {
				x := data(seq, seq%2*api.Trimmed, "x")
				x.Kind = api.Kind(kind)
				p.nothing(x)
			}
		}
		p.probe()
	}
}

func TestBounced(t *testing.T) {
	for _, done := range []bool{false, true} {
		p := begun(t)
		if done {
			p.takes(data(2, 0, "c"), data(4, api.Fin, ""))
		}
		for flags := range 200 {
			for _, seq := range []int{0, 2, 3, 4, 6, 8, 100} {
				if has(flags, api.Bounced) {
					p.nothing(data(seq, flags, "x"))
				}
			}
		}
		for _, flags := range []int{1<<40 + 16, math.MaxInt, math.MaxInt - 4, 1<<62 + 24} {
			p.nothing(data(2, flags, "x"))
		}
		p.probe()
	}
}

func TestNoSuchSeq(t *testing.T) {
	for _, done := range []bool{false, true} {
		p := begun(t)
		if done {
			p.takes(data(2, 0, "c"), data(4, api.Fin, ""))
		}
		for _, seq := range []int{-1, -2, -256, -1 << 32, -1 << 60, math.MinInt, 1<<60 + 1, 1<<60 + 2, 1 << 61, math.MaxInt} {
			for _, flags := range []int{0, api.End, api.Fin, api.Trimmed, api.First} {
				p.nothing(data(seq, flags, "x"))
			}
		}
		p.probe()
	}
}

// TestBeyondTheWindow: up to its last number all is taken, and from there on nothing.
func TestBeyondTheWindow(t *testing.T) {
	for window := 1; window <= 256; window++ {
		for _, flags := range []int{0, api.End, api.Fin, api.Trimmed} {
			p := made(t, 1, window)
			for range window % 3 {
				p.take(data(p.m.next, 0, "x"))
			}
			for _, seq := range []int{0, 1, 2, 255, 256, 257, 1 << 32, 1<<60 - 1 - p.m.next - window, 1<<60 - p.m.next - window} {
				p.nothing(data(p.m.next+window+seq, flags, "x"))
			}
			want := map[bool]api.Kind{true: api.Nack, false: api.Ack}[flags == api.Trimmed]
			seq := p.m.next + window - 1
			if a, _ := p.take(data(seq, flags, "x")); !are(a, want, seq) {
				t.Errorf("a window of %d, flags %d, %d: %v", window, flags, seq, a)
			}
		}
	}
}

// TestPresent: an Ack for what is below Next or kept, whatever it is now, and nothing changes.
func TestPresent(t *testing.T) {
	for _, flags := range []int{0, api.First, api.End, api.Fin, api.Trimmed, api.Trimmed + api.Fin, api.Urgent, -1, math.MinInt} {
		p := begun(t)
		line := p.r.Line()
		for range 2 {
			for _, seq := range []int{0, 1, 3, 5} {
				if a, messages := p.take(data(seq, flags, "other")); !are(a, api.Ack, seq) || messages != nil || p.r.Line() != line {
					t.Errorf("flags %d, %d: %v, %q, %+v", flags, seq, a, messages, p.r.Line())
				}
			}
		}
		p.probe()
		if got := p.takes(data(2, 0, "c"), data(4, 0, "e"), data(6, api.End, "g")); got != "bcd|efg|" {
			t.Errorf("flags %d: %q", flags, got)
		}
	}
}

// TestPresentFarBelow: also what came long ago.
func TestPresentFarBelow(t *testing.T) {
	p := made(t, 2, 3)
	for n := range 1000 {
		p.take(data(n, api.End, "x"))
	}
	for _, seq := range []int{0, 1, 100, 500, 742, 743, 744, 745, 997, 998, 999} {
		for _, flags := range []int{0, api.Trimmed, api.Fin} {
			if a, messages := p.take(data(seq, flags, "y")); !are(a, api.Ack, seq) || messages != nil || p.r.Line().Arrived != 1000 {
				t.Errorf("%d: %v, %q", seq, a, messages)
			}
		}
	}
}

func TestTrimmed(t *testing.T) {
	for _, flags := range []int{8, 9, 10, 12, 14, 40, 47, 8 + 64, 8 + 1<<50} {
		p := made(t, 2, 3)
		for n := range 12 { // it is lacking, so each of them counts
			seq := n % 3
			a, messages := p.take(data(seq, flags, strings.Repeat("x", n%2)))
			if !are(a, api.Nack, seq) || messages != nil || p.r.Kept() != nil {
				t.Errorf("flags %d, %d: %v, %q", flags, seq, a, messages)
			}
			if line := p.r.Line(); line.Arrived != n+1 || line.Pending != n+1 || line.Next != 0 || line.Done {
				t.Errorf("flags %d: %+v", flags, line)
			}
		}
		if got := p.takes(data(1, api.End, "b"), data(2, api.End, "c"), data(0, 0, "a")); got != "ab|c|" {
			t.Errorf("flags %d: %q", flags, got)
		}
		if line := p.r.Line(); line.Arrived != 15 || line.Pending != 15 {
			t.Errorf("flags %d: %+v", flags, line)
		}
	}
}

func TestDataInEveryOrder(t *testing.T) {
	pieces := []api.Packet{data(0, 0, "ab"), data(1, api.End, "c"), data(2, api.End, "d"), data(3, 0, "ef"), data(4, api.End, "g"), data(5, api.Fin, "")}
	for _, l := range orders(6) {
		p := made(t, 3, 6)
		got := ""
		for i, n := range l {
			got += p.takes(pieces[n])
			if i%2 == 0 {
				p.take(pieces[n])
			}
		}
		if got != "abc|d|efg|" || !p.r.Done() || p.r.Pending() != 0 || p.r.Line().Arrived != 6 {
			t.Errorf("%v: %q, %+v", l, got, p.r.Line())
		}
	}
}

// TestMessagesOfOneCall: a gap that is filled delivers all that it held up, in order.
func TestMessagesOfOneCall(t *testing.T) {
	p := made(t, 1, 256)
	var want []string
	for n := 255; n > 0; n-- {
		p.r.Take(data(n, n%3/2*api.End, string(rune('a'+n%26))))
		p.m.take(data(n, n%3/2*api.End, string(rune('a'+n%26))))
	}
	for n := 2; n < 256; n += 3 {
		m := string(rune('a'+(n-1)%26)) + string(rune('a'+n%26))
		if n > 2 {
			m = string(rune('a'+(n-2)%26)) + m
		} else {
			m = "!" + m
		}
		want = append(want, m)
	}
	a, messages := p.take(data(0, 0, "!"))
	if len(messages) != len(want) || len(messages) != 85 {
		t.Fatalf("%q", messages)
	}
	for i, m := range messages {
		if string(m) != want[i] {
			t.Errorf("message %d: %q, not %q", i, m, want[i])
		}
	}
	if !are(a, api.Ack, 0) || p.r.Line().Next != 256 || p.r.Kept() != nil {
		t.Errorf("%v, %+v", a, p.r.Line())
	}
}

// TestFlagsOfKept: First, Urgent and flags that there are not change nothing, and negative flags have none.
func TestFlagsOfKept(t *testing.T) {
	for _, c := range []struct {
		flags int
		want  string
		done  bool
	}{
		{0, "", false}, {1, "", false}, {2, "ab|", false}, {3, "ab|", false}, {32, "", false}, {33, "", false}, {34, "ab|", false}, {35, "ab|", false}, {64, "", false}, {66, "ab|", false}, {1 << 40, "", false}, {1<<40 + 2, "ab|", false},
		{4, "", true}, {5, "", true}, {6, "", true}, {36, "", true}, {39, "", true}, {68, "", true}, {1<<40 + 4, "", true},
		{-1, "", false}, {-2, "", false}, {-4, "", false}, {-8, "", false}, {-16, "", false}, {-14, "", false}, {math.MinInt, "", false}, {math.MinInt + 6, "", false},
	} {
		p := made(t, 1, 4)
		if got := p.takes(data(0, 0, "a"), data(1, c.flags, "b")); got != c.want || p.r.Done() != c.done {
			t.Errorf("flags %d: %q, %v", c.flags, got, p.r.Done())
		}
		p.probe()
		late := made(t, 1, 4)
		if got := late.takes(data(1, c.flags, "b"), data(0, 0, "a")); got != c.want || late.r.Done() != c.done {
			t.Errorf("flags %d, kept: %q, %v", c.flags, got, late.r.Done())
		}
		late.probe()
	}
}

// TestFin: it ends the connection where nothing is lacking ahead of it, and not before.
func TestFin(t *testing.T) {
	p := made(t, 2, 5)
	if a, _ := p.take(data(2, api.Fin, "")); !are(a, api.Ack, 2) || p.r.Done() || p.r.Line().Next != 0 {
		t.Errorf("%v, %+v", a, p.r.Line())
	}
	if got := p.takes(data(1, api.End, "b")); got != "" || p.r.Done() {
		t.Errorf("%q, %+v", got, p.r.Line())
	}
	a, messages := p.take(data(0, 0, "a"))
	if !are(a, api.Ack, 0) || !sames(messages, [][]byte{[]byte("ab")}) || !p.r.Done() {
		t.Errorf("%v, %q, %+v", a, messages, p.r.Line())
	}
	if line := p.r.Line(); line.Next != 3 || line.Arrived != 3 || line.Pending != 0 {
		t.Errorf("%+v", line)
	}
	alone := made(t, 2, 5)
	if a, messages := alone.take(data(0, api.Fin, "")); !are(a, api.Ack, 0) || messages != nil || !alone.r.Done() || alone.r.Line().Next != 1 {
		t.Errorf("%v, %q, %+v", a, messages, alone.r.Line())
	}
}

// TestFinTrimmed: it arrives, but does not end anything.
func TestFinTrimmed(t *testing.T) {
	p := made(t, 2, 5)
	p.take(data(0, api.End, "a"))
	if a, _ := p.take(data(1, api.Fin+api.Trimmed, "")); !are(a, api.Nack, 1) || p.r.Done() || p.r.Pending() != 2 {
		t.Errorf("%v, %+v", a, p.r.Line())
	}
	if a, _ := p.take(data(1, api.Fin, "")); !are(a, api.Ack, 1) || !p.r.Done() {
		t.Errorf("%v, %+v", a, p.r.Line())
	}
}

// TestBehindFin: what is kept behind the end is not delivered, and not kept any more.
func TestBehindFin(t *testing.T) {
	for _, l := range orders(4) {
		p := made(t, 2, 8)
		p.takes(data(0, api.End, "a"), data(1, 0, "b"))
		for _, n := range l {
			p.take([]api.Packet{data(3, api.Fin, ""), data(4, api.End, "e"), data(5, api.Fin, ""), data(7, api.End, "h")}[n])
		}
		if got := p.r.Kept(); !slices.Equal(got, []int{3, 4, 5, 7}) || p.r.Pending() != 6 {
			t.Errorf("%v: %v", l, got)
		}
		if got := p.takes(data(2, api.End, "c")); got != "bc|" || !p.r.Done() || p.r.Kept() != nil {
			t.Errorf("%v: %q, %v", l, got, p.r.Kept())
		}
		if line := p.r.Line(); line.Next != 4 || line.Arrived != 7 || line.Pending != 0 {
			t.Errorf("%v: %+v", l, line)
		}
		p.probe()
	}
}

// TestWhenDone: an Ack for whatever comes, also far from the window, and nothing changes.
func TestWhenDone(t *testing.T) {
	p := made(t, 2, 3)
	p.takes(data(0, 0, "open"), data(2, 0, "kept"), data(1, api.Fin, ""))
	line := p.r.Line()
	if line.Next != 2 || line.Arrived != 3 || !line.Done {
		t.Errorf("%+v", line)
	}
	for _, seq := range []int{0, 1, 2, 3, 4, 5, 100, 255, 256, 257, 1 << 32, 1<<60 - 1, 1 << 60} {
		for _, flags := range []int{0, api.First, api.End, api.Fin, api.Trimmed, api.Trimmed + api.Fin} {
			if a, messages := p.take(data(seq, flags, "x")); !are(a, api.Ack, seq) || messages != nil || p.r.Line() != line || p.r.Kept() != nil {
				t.Errorf("%d, flags %d: %v, %q, %+v", seq, flags, a, messages, p.r.Line())
			}
		}
	}
}

// TestWithoutBytes: a part that join rejects is skipped, with its End, and what is open stays.
func TestWithoutBytes(t *testing.T) {
	for _, empty := range [][]byte{nil, {}} {
		x := data(1, api.End, "")
		x.Payload = empty
		p := made(t, 2, 3)
		if got := p.takes(data(0, 0, "a"), x); got != "" || p.r.Line().Next != 2 || p.r.Pending() != 2 {
			t.Errorf("%q, %+v", got, p.r.Line())
		}
		if a, _ := p.take(x); !are(a, api.Ack, 1) {
			t.Error("it is present:", a)
		}
		if got := p.takes(data(2, 0, ""), data(3, api.End, "b")); got != "ab|" {
			t.Errorf("%q", got)
		}
		if got := p.takes(data(4, api.End, ""), data(5, api.End, "c")); got != "c|" {
			t.Errorf("nothing was open: %q", got)
		}
	}
}

// TestTooLong: parts up to the longest message, and one byte beyond, which is skipped.
func TestTooLong(t *testing.T) {
	long := strings.Repeat("m", api.MaxMessage)
	p := made(t, 2, 4)
	if got := p.takes(data(0, api.End, long)); got != long+"|" {
		t.Error("the longest:", len(got))
	}
	if got := p.takes(data(1, api.End, long+"x")); got != "" || p.r.Line().Next != 2 {
		t.Error("one byte more:", len(got), p.r.Line())
	}
	p.takes(data(2, 0, long[1:]), data(3, 0, "xy"), data(4, api.End, "xy"))
	if got := p.takes(data(5, api.End, "z")); got != long[1:]+"z|" || p.r.Line().Next != 6 {
		t.Error("what was open:", len(got), p.r.Line())
	}
	p.takes(data(7, 0, long), data(8, api.End, "x"), data(9, api.End, "y"))
	if got := p.takes(data(6, api.End, "a")); got != "a|" || p.r.Line().Next != 10 {
		t.Error("kept first:", len(got), p.r.Line())
	}
	if got := p.takes(data(10, api.Fin, "")); got != "" || !p.r.Done() {
		t.Error("nothing completes it:", len(got))
	}
}

// TestMessagesOfCut: what a sender cuts is delivered as it was, with pieces of any length.
func TestMessagesOfCut(t *testing.T) {
	for _, mtu := range []int{1, 2, 3, 7, 100, 1023, 1024} {
		for _, n := range []int{1, 2, 99, 100, 101, 1024, 1025, 3000} {
			p := made(t, 8, 256)
			m := text(uint64(n), n)
			pieces, _ := cut.Cut(m, mtu)
			var got [][]byte
			for seq, piece := range pieces {
				x := data(seq, 0, string(piece.B))
				if piece.End {
					x.Flags = api.End
				}
				_, messages := p.r.Take(x)
				got = append(got, messages...)
			}
			if !sames(got, [][]byte{m}) {
				t.Errorf("%d bytes in pieces of %d: %d messages", n, mtu, len(got))
			}
		}
	}
}

// TestBytesAreAsTheyWere: all bytes, also where the payload has more behind it.
func TestBytesAreAsTheyWere(t *testing.T) {
	all := make([]byte, 256)
	for i := range all {
		all[i] = byte(i)
	}
	p := made(t, 1, 2)
	x := data(1, api.End, "")
	x.Payload = all[:200]
	p.take(x)
	x.Seq, x.Flags, x.Payload = 0, 0, all[200:]
	if _, messages := p.take(x); len(messages) != 1 || !bytes.Equal(messages[0], append(slices.Clone(all[200:]), all[:200]...)) {
		t.Errorf("%q", messages)
	}
	for i, b := range all {
		if int(b) != i {
			t.Fatal("changed:", i)
		}
	}
}
