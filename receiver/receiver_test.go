package receiver_test

import (
	"math"
	"slices"
	"testing"

	"nozzle/api"
	"nozzle/draws"
	"nozzle/receiver"
	"nozzle/wire"
)

// P19.1: New.

// refuses holds that New makes nothing of these.
func refuses(t *testing.T, c api.Conf, src, dst, conn, class int, want api.Errno) {
	t.Helper()
	if r, e := receiver.New(c, src, dst, conn, class); r != nil || e != want {
		t.Errorf("New(%+v, %d, %d, %d, %d): %v, %d, not %d", c, src, dst, conn, class, r, e, want)
	}
}

func TestNewOfEveryPathsAndWindow(t *testing.T) {
	for paths := -3; paths <= 12; paths++ {
		for window := -3; window <= 260; window++ {
			if 1 <= paths && paths <= 8 && 1 <= window && window <= 256 {
				madeFor(t, conf(paths, window), 0, 7, 1, 0)
			} else {
				refuses(t, conf(paths, window), 0, 7, 1, 0, api.ErrReceiver)
			}
		}
	}
	for _, n := range outside() {
		refuses(t, conf(n, 5), 0, 7, 1, 0, api.ErrReceiver)
		refuses(t, conf(5, n), 0, 7, 1, 0, api.ErrReceiver)
		refuses(t, conf(n, n), 0, 7, 1, 0, api.ErrReceiver)
	}
}

// TestNewExaminesNoOtherSettings: only what a receiver needs.
func TestNewExaminesNoOtherSettings(t *testing.T) {
	for _, n := range append(outside(), 0, 1, 9, 300) {
		c := api.Conf{Hosts: n, Paths: 2, Mtu: n, First: n, Window: 3, Low: n, High: n, Weight: n, Rto: n, Cap: n, Rest: n, Table: n, Send: n, Seed: n}
		p := madeFor(t, c, 0, 7, 1, 0)
		if got := p.takes(data(1, api.End, "b"), data(0, 0, "a")); got != "ab|" {
			t.Errorf("%d: %q", n, got)
		}
	}
}

func TestNewOfEveryHost(t *testing.T) {
	for src := -3; src <= 10; src++ {
		for dst := -3; dst <= 10; dst++ {
			if src >= 0 && src <= 7 && dst >= 0 && dst <= 7 && src != dst {
				madeFor(t, conf(1, 1), src, dst, 1, 0)
			} else {
				refuses(t, conf(1, 1), src, dst, 1, 0, api.ErrRange)
			}
		}
	}
	for _, n := range outside() {
		refuses(t, conf(1, 1), n, 1, 1, 0, api.ErrRange)
		refuses(t, conf(1, 1), 1, n, 1, 0, api.ErrRange)
		refuses(t, conf(1, 1), n, n, 1, 0, api.ErrRange)
	}
}

func TestNewOfConnAndClass(t *testing.T) {
	for _, conn := range []int{1, 2, 64, 1<<30 - 1, 1 << 30} {
		for class := range 2 {
			madeFor(t, conf(8, 256), 1, 0, conn, class)
		}
		for _, class := range append(outside(), 2, 3, 1+1<<32) {
			refuses(t, conf(8, 256), 1, 0, conn, class, api.ErrRange)
		}
	}
	for _, conn := range []int{math.MinInt, -1 << 30, -1, 0, 1<<30 + 1, 1 << 31, 1 << 32, 1<<32 + 1, 1 << 60, math.MaxInt} {
		refuses(t, conf(8, 256), 1, 0, conn, 0, api.ErrRange)
	}
}

func TestNewErrorsInOrder(t *testing.T) {
	for _, c := range []api.Conf{{}, conf(0, 3), conf(9, 3), conf(3, 0), conf(3, 257), conf(-1, -1)} {
		refuses(t, c, -1, 1, 1, 0, api.ErrReceiver)
		refuses(t, c, 1, 8, 1, 0, api.ErrReceiver)
		refuses(t, c, 1, 1, 1, 0, api.ErrReceiver)
		refuses(t, c, 0, 1, 0, 0, api.ErrReceiver)
		refuses(t, c, 0, 1, 1, 2, api.ErrReceiver)
		refuses(t, c, 9, 9, -1, -1, api.ErrReceiver)
	}
}

func TestNothingArrivedAtANewOne(t *testing.T) {
	for class := range 2 {
		p := madeFor(t, conf(3, 4), 6, 1, 12, class)
		if got, want := p.r.Line(), (api.Line{Src: 6, Dst: 1, Conn: 12, Class: class}); got != want {
			t.Errorf("%+v, not %+v", got, want)
		}
		if x, ok := p.issue(); ok || !wire.Same(x, api.Packet{}) || p.r.Pending() != 0 || p.r.Done() || len(p.r.Kept()) != 0 {
			t.Error(x, ok, p.r.Pending(), p.r.Done(), p.r.Kept())
		}
		p.probe()
	}
}

func TestNewIsOneOfItsOwn(t *testing.T) {
	a, b := made(t, 2, 3), made(t, 2, 3)
	a.take(data(0, api.End, "a"))
	a.take(data(2, api.Trimmed, ""))
	b.agree("another one")
	b.take(data(1, 0, "b"))
	a.agree("the first one")
	a.probe()
	b.probe()
}

// P19.3: Issue.

func TestIssueGoesOverThePaths(t *testing.T) {
	for paths := 1; paths <= 8; paths++ {
		p := made(t, paths, 30)
		for n := range 20 {
			p.take(data(n+1, n%2*api.Trimmed, "x"))
		}
		for n := range 20 {
			want := api.Packet{Kind: api.Pull, Path: n % paths, Src: 2, Dst: 4, Conn: 7, Pull: n + 1}
			if x, ok := p.issue(); !ok || !wire.Same(x, want) || p.r.Pending() != 19-n || p.r.Line().Pulled != n+1 {
				t.Errorf("%d paths, pull %d: %+v, %+v", paths, n+1, x, p.r.Line())
			}
			if x := p.m.line(); x.Arrived != 20 {
				t.Error(x)
			}
		}
		if x, ok := p.issue(); ok || !wire.Same(x, api.Packet{}) || p.r.Line().Pulled != 20 {
			t.Errorf("%d paths, none is owed: %+v, %v", paths, x, ok)
		}
		p.take(data(0, 0, "y"))
		if x, ok := p.issue(); !ok || x.Pull != 21 || x.Path != 20%paths {
			t.Errorf("%d paths, one more: %+v, %v", paths, x, ok)
		}
	}
}

// TestIssueIsAPacket: what is issued goes through the fabric as it is.
func TestIssueIsAPacket(t *testing.T) {
	p := madeFor(t, conf(8, 256), 0, 7, api.MaxConn, 1)
	for n := range 40 {
		p.take(data(n, 0, "x"))
		x, ok := p.issue()
		if e := wire.Check(x); !ok || e != api.OK {
			t.Errorf("%+v, %v: %d", x, ok, e)
		}
	}
}

func TestIssueBetweenPackets(t *testing.T) {
	source := draws.New(3)
	p := made(t, 3, 8)
	issued := 0
	for range 2000 {
		if source.Below(2) == 0 {
			p.take(data(p.m.next+source.Below(10)-1, source.Below(2)*api.Trimmed, "x"))
		} else if x, ok := p.issue(); ok {
			if x.Pull != issued+1 || x.Path != issued%3 {
				t.Fatalf("%+v behind %d", x, issued)
			}
			issued++
		}
	}
	if issued < 300 {
		t.Error("only", issued)
	}
}

// TestIssueWhenDone: what was owed is not owed any more, and what was issued stays.
func TestIssueWhenDone(t *testing.T) {
	for issued := range 4 {
		p := made(t, 2, 9)
		p.takes(data(0, 0, "a"), data(1, api.Trimmed, ""), data(1, api.End, "b"))
		for range issued {
			p.issue()
		}
		p.take(data(2, api.Fin, ""))
		x, ok := p.issue()
		if line := p.r.Line(); ok || !wire.Same(x, api.Packet{}) || line.Pulled != issued || line.Pending != 0 || line.Arrived != 4 {
			t.Errorf("%+v, %v, %+v", x, ok, line)
		}
		p.takes(data(7, 0, "c"), data(8, api.Trimmed, ""))
		if x, ok := p.issue(); ok {
			t.Error("of what came behind the end:", x)
		}
	}
}

// P19.4: Pending, Done, Line, Kept, Fork.

func TestLine(t *testing.T) {
	p := madeFor(t, conf(2, 5), 3, 0, 99, 1)
	p.takes(data(0, 0, "a"), data(2, 0, "c"), data(1, api.Trimmed, ""), data(4, api.Trimmed, ""), data(9, 0, "j"), data(2, 0, "c"))
	p.issue()
	if got, want := p.r.Line(), (api.Line{Src: 3, Dst: 0, Conn: 99, Class: 1, Next: 1, Pulled: 1, Arrived: 4, Pending: 3}); got != want {
		t.Errorf("%+v, not %+v", got, want)
	}
	if p.r.Pending() != 3 || p.r.Done() {
		t.Error(p.r.Pending(), p.r.Done())
	}
	p.takes(data(1, 0, "b"), data(3, api.Fin, ""))
	if got, want := p.r.Line(), (api.Line{Src: 3, Dst: 0, Conn: 99, Class: 1, Next: 4, Pulled: 1, Arrived: 6, Done: true}); got != want {
		t.Errorf("%+v, not %+v", got, want)
	}
	if p.r.Pending() != 0 || !p.r.Done() {
		t.Error(p.r.Pending(), p.r.Done())
	}
}

func TestKept(t *testing.T) {
	p := made(t, 1, 6)
	for _, c := range []struct {
		seq  int
		want []int
	}{{5, []int{5}}, {2, []int{2, 5}}, {6, []int{2, 5}}, {3, []int{2, 3, 5}}, {0, []int{2, 3, 5}}, {6, []int{2, 3, 5, 6}}, {7, []int{2, 3, 5, 6}}, {1, []int{5, 6}}, {9, []int{5, 6, 9}}, {4, []int{9}}, {12, []int{9, 12}}, {7, []int{9, 12}}, {8, []int{12}}, {10, []int{12}}, {11, nil}} {
		p.take(data(c.seq, 0, "x"))
		if got := p.r.Kept(); !slices.Equal(got, c.want) {
			t.Errorf("behind %d: %v, not %v", c.seq, got, c.want)
		}
	}
}

// TestKeptUpToAWindow: as many as there can be, in a window of any size, anywhere.
func TestKeptUpToAWindow(t *testing.T) {
	for _, window := range []int{1, 2, 3, 63, 64, 65, 128, 255, 256} {
		p := made(t, 1, window)
		for _, ahead := range []int{0, 1, 60, 200, 300} {
			for range ahead {
				p.r.Take(data(p.m.next, 0, ""))
				p.m.take(data(p.m.next, 0, ""))
			}
			var want []int
			for n := p.m.next + window - 1; n > p.m.next; n-- {
				p.take(data(n, 0, "x"))
				want = append(want, n)
			}
			slices.Reverse(want)
			if got := p.r.Kept(); !slices.Equal(got, want) {
				t.Errorf("a window of %d: %v", window, got)
			}
			if a, _ := p.take(data(p.m.next+window, 0, "x")); a != nil {
				t.Errorf("beyond a window of %d: %v", window, a)
			}
			p.take(data(p.m.next, 0, "x"))
			if got := p.r.Kept(); got != nil {
				t.Errorf("a window of %d that is full: %v", window, got)
			}
		}
	}
}

func TestForkGoesItsOwnWay(t *testing.T) {
	p := made(t, 3, 8)
	p.takes(data(0, 0, "a"), data(2, 0, "c"), data(4, api.End, "e"), data(5, api.Trimmed, ""))
	p.issue()
	f, other := p.fork(), p.fork()
	if got := f.takes(data(1, 0, "b"), data(3, 0, "d"), data(5, api.Fin, "")); got != "abcde|" || !f.r.Done() {
		t.Errorf("%q, %+v", got, f.r.Line())
	}
	p.agree("its fork is done")
	if got := p.takes(data(1, api.End, "B")); got != "aB|" {
		t.Errorf("%q", got)
	}
	p.issue()
	p.issue()
	f.agree("what it was forked from went on")
	other.agree("both went on")
	if got := other.takes(data(3, 0, "D"), data(1, 0, "-")); got != "a-cDe|" {
		t.Errorf("%q", got)
	}
	if x, ok := other.issue(); !ok || x.Pull != 2 || x.Path != 1 {
		t.Errorf("%+v, %v", x, ok)
	}
	done := f.fork()
	done.take(data(9, 0, "x"))
	done.probe()
	for _, x := range []*pair{p, f, other, done} {
		x.fork().fork().probe()
		x.agree("at last")
	}
}

// TestMemoryIsNotShared: what is answered is the caller's own, also where it is one and the same piece.
func TestMemoryIsNotShared(t *testing.T) {
	p := made(t, 2, 4)
	p.takes(data(1, api.End, "b"), data(2, api.End, "c"), data(3, 0, "d"))
	f := p.fork()
	kept := p.r.Kept()
	for i := range kept {
		kept[i] = -1
	}
	p.agree("Kept changed")
	a, messages := p.take(data(0, api.End, "a"))
	for i := range a {
		a[i] = api.Packet{}
	}
	for _, m := range messages {
		for i := range m {
			m[i] = '?'
		}
		_ = append(m, "???"...)
	}
	p.agree("the answers changed")
	if string(messages[0]) != "?" || len(messages) != 3 {
		t.Errorf("%q", messages)
	}
	for i := range messages {
		messages[i] = nil
	}
	if got := f.takes(data(0, api.End, "A")); got != "A|b|c|" {
		t.Errorf("%q", got)
	}
	p.probe()
	f.probe()
}

// notMade are Receivers that neither New nor Fork made.
func notMade() map[string]*receiver.Receiver {
	_, _ = receiver.New(conf(1, 1), 0, 1, 1, 0) // a Receiver elsewhere makes nothing of these
	var zero receiver.Receiver
	var none *receiver.Receiver
	refused, _ := receiver.New(conf(0, 1), 0, 1, 1, 0)
	return map[string]*receiver.Receiver{"nil": nil, "zero": {}, "new": new(receiver.Receiver), "refused": refused, "its fork": zero.Fork(), "fork of nil": none.Fork()}
}

func TestNotMade(t *testing.T) {
	for name, r := range notMade() {
		for range 2 {
			for _, x := range []api.Packet{{}, data(0, api.End, "a"), data(0, api.Fin, ""), data(0, api.Trimmed, ""), data(-1, 0, ""), {Kind: api.Pull}} {
				if a, messages := r.Take(x); a != nil || messages != nil {
					t.Errorf("%s: Take: %v, %v", name, a, messages)
				}
			}
			if x, ok := r.Issue(); ok || !wire.Same(x, api.Packet{}) {
				t.Errorf("%s: Issue: %v, %v", name, x, ok)
			}
			if r.Pending() != 0 || r.Done() || r.Line() != (api.Line{}) || r.Kept() != nil || r.Fork() != nil {
				t.Errorf("%s: %d, %v, %+v, %v, %v", name, r.Pending(), r.Done(), r.Line(), r.Kept(), r.Fork())
			}
		}
	}
}

// TestACopiedValueAnswers: whatever it answers, it does not panic.
func TestACopiedValueAnswers(t *testing.T) {
	p := made(t, 2, 4)
	p.takes(data(0, 0, "a"), data(2, 0, "c"))
	value := *p.r
	value.Take(data(1, api.End, "b"))
	value.Issue()
	value.Take(data(3, api.Fin, ""))
	p.r.Take(data(3, api.Fin, ""))
	value.Fork().Take(data(4, 0, ""))
	_, _, _, _ = value.Line(), value.Kept(), value.Pending(), value.Done()
}

// Any calls.

// confOf is some settings.
func confOf(source *draws.Source) api.Conf {
	windows := []int{1, 2, 3, 4, 5, 8, 13, 64, 256}
	return conf(1+source.Below(8), windows[source.Below(len(windows))])
}

// call is one of all calls, to numbers in and around the window.
func (p *pair) call(kind, n int) *pair {
	p.t.Helper()
	seq := p.m.next + n%(p.m.c.Window+4) - 2
	payload := string(text(uint64(n), n%5))
	switch kind % 9 {
	case 0, 1:
		p.take(data(p.m.next, n%2*api.End, payload))
	case 2, 3:
		p.take(data(seq, n%2*api.End, payload))
	case 4:
		p.take(data(seq, api.Trimmed+n%8, payload))
	case 5:
		p.take(api.Packet{Kind: api.Kind(n%7 - 1), Flags: n%67 - 2, Path: n % 11, Seq: seq, Payload: []byte(payload), Conn: n})
	case 6:
		p.issue()
	case 7:
		if n%16 == 0 {
			p.take(data(seq, api.Fin, ""))
		}
	case 8:
		if n%8 == 0 {
			p.probe()
			return p.fork()
		}
	}
	return p
}

func TestAnyCalls(t *testing.T) {
	for seed := range uint64(300) {
		source := draws.New(seed)
		p := madeFor(t, confOf(source), 4, 2, 7, source.Below(2))
		for range 200 {
			p = p.call(source.Below(9), source.Below(1<<16))
		}
		p.probe()
	}
}

func FuzzReceiverAgrees(f *testing.F) {
	f.Add(uint64(1), []byte{0, 1, 0, 2, 5, 0, 3, 1, 1, 7, 0, 0, 6, 0, 0})
	f.Add(uint64(9), []byte{2, 3, 0, 4, 2, 1, 8, 0, 8, 0, 0, 0, 7, 0, 16, 5, 4, 1})
	f.Fuzz(func(t *testing.T, seed uint64, b []byte) {
		source := draws.New(seed)
		p := madeFor(t, confOf(source), 4, 2, 7, source.Below(2))
		for ; len(b) >= 3; b = b[3:] {
			p = p.call(int(b[0]), int(b[1])<<8|int(b[2]))
		}
		p.probe()
	})
}
