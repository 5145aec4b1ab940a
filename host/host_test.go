package host_test

import (
	"slices"
	"testing"

	"nozzle/api"
	"nozzle/host"
)

// P21.1: Check, New.

// setting is one of the settings, with its limits.
type setting struct {
	name        string
	least, most int
	field       func(c *api.Conf) *int
	e           api.Errno
}

func settings() []setting {
	return []setting{
		{"Hosts", 2, 8, func(c *api.Conf) *int { return &c.Hosts }, api.ErrHost},
		{"Table", 1, 64, func(c *api.Conf) *int { return &c.Table }, api.ErrHost},
		{"Paths", 1, 8, func(c *api.Conf) *int { return &c.Paths }, api.ErrSender},
		{"Mtu", 1, 1024, func(c *api.Conf) *int { return &c.Mtu }, api.ErrSender},
		{"Window", 2, 256, func(c *api.Conf) *int { return &c.Window }, api.ErrSender}, // First is 2
		{"First", 1, 6, func(c *api.Conf) *int { return &c.First }, api.ErrSender},     // Window is 6
		{"Rto", 1, 20, func(c *api.Conf) *int { return &c.Rto }, api.ErrSender},        // Cap is 20
		{"Cap", 5, 1 << 20, func(c *api.Conf) *int { return &c.Cap }, api.ErrSender},   // Rto is 5
		{"Rest", 0, 1 << 20, func(c *api.Conf) *int { return &c.Rest }, api.ErrSender},
		{"Send", 1, 4096, func(c *api.Conf) *int { return &c.Send }, api.ErrSender},
	}
}

// tells holds Check and New against an error that both are to tell.
func tells(t *testing.T, what string, c api.Conf, want api.Errno) {
	t.Helper()
	if e := host.Check(c); e != want {
		t.Errorf("%s: Check(%+v) %d, not %d", what, c, e, want)
	}
	h, e := host.New(c, 1)
	if e != want || (h == nil) != (want != api.OK) {
		t.Errorf("%s: New(%+v) %v, %d, not %d", what, c, h, e, want)
	}
}

func TestSettingsAtTheirLimits(t *testing.T) {
	for _, s := range settings() {
		for _, n := range []int{s.least, s.least + 1, (s.least + s.most) / 2, s.most - 1, s.most} {
			c := conf()
			*s.field(&c) = n
			tells(t, s.name, c, api.OK)
		}
	}
}

func TestSettingsBeyondTheirLimits(t *testing.T) {
	for _, s := range settings() {
		for _, n := range append(outside(), s.least-1, s.most+1) {
			if s.least <= n && n <= s.most {
				continue
			}
			c := conf()
			*s.field(&c) = n
			tells(t, s.name, c, s.e)
		}
	}
	tells(t, "no settings", api.Conf{}, api.ErrSender)
}

// TestOtherSettingsDoNotConcernHosts: the queues of ports, and the seed.
func TestOtherSettingsDoNotConcernHosts(t *testing.T) {
	for _, n := range append(outside(), 0) {
		tells(t, "others", with(func(c *api.Conf) { c.Low, c.High, c.Weight, c.Seed = n, n, n, n }), api.OK)
	}
}

func TestTheSendersErrorComesFirst(t *testing.T) {
	for _, s := range settings() {
		if s.e == api.ErrHost {
			continue
		}
		c := with(func(c *api.Conf) { c.Hosts, c.Table = 1, 65 })
		*s.field(&c) = s.least - 1
		tells(t, s.name, c, api.ErrSender)
	}
}

func TestNewForEachHost(t *testing.T) {
	for hosts := 2; hosts <= 8; hosts++ {
		c := with(func(c *api.Conf) { c.Hosts = hosts })
		for _, id := range append(outside(), 0, 1, 2, 3, 4, 5, 6, 7, 8) {
			h, e := host.New(c, id)
			want := api.OK
			if id < 0 || id >= hosts {
				want = api.ErrRange
			}
			if e != want || (h == nil) != (want != api.OK) {
				t.Errorf("New(%d hosts, %d): %v, %d, not %d", hosts, id, h, e, want)
			}
		}
	}
}

func TestNewTellsTheSettingsErrorAheadOfTheHost(t *testing.T) {
	for _, s := range settings() {
		for _, id := range []int{-1, 8} {
			c := conf()
			*s.field(&c) = s.least - 1
			if h, e := host.New(c, id); h != nil || e != s.e {
				t.Errorf("New(%+v, %d): %v, %d, not %d", c, id, h, e, s.e)
			}
		}
	}
}

func TestNewHasNothing(t *testing.T) {
	h, _ := host.New(conf(), 2)
	if l := h.Lines(); len(l) != 0 {
		t.Errorf("Lines %v", l)
	}
	if c := h.Counts(); c != (api.Counts{}) {
		t.Errorf("Counts %v", c)
	}
	if out := h.Tick(); len(out) != 0 {
		t.Errorf("Tick %v", out)
	}
}

// P21.2: Open, Send, Close.

func TestOpenCountsUpForEachHost(t *testing.T) {
	p := made(t, with(func(c *api.Conf) { c.Hosts, c.Table = 8, 3 }), 3)
	for want := 1; want <= 3; want++ {
		for dst := range 8 {
			if dst == 3 {
				continue
			}
			if n, e := p.open(dst, want%2); n != want || e != api.OK {
				t.Errorf("Open(%d): %d, %d, not %d", dst, n, e, want)
			}
		}
	}
	if n := len(p.h.Lines()); n != 21 {
		t.Errorf("%d lines", n)
	}
}

func TestOpenHasTheClass(t *testing.T) {
	for class := range 2 {
		p := made(t, conf(), 0)
		p.open(2, class)
		if l := p.h.Lines(); len(l) != 1 || l[0] != (api.Line{Src: 0, Dst: 2, Conn: 1, Class: class}) {
			t.Errorf("class %d: %+v", class, l)
		}
		if out, _ := p.send(2, 1, []byte("a")); len(out) != 1 || out[0].Flags != api.First+api.End+class*api.Urgent {
			t.Errorf("class %d: %+v", class, out)
		}
	}
}

func TestOpenRefuses(t *testing.T) {
	p := made(t, conf(), 1)
	p.open(0, 0)
	p.open(0, 0)
	for _, full := range []int{0, 2} { // the range is told ahead of the table
		for _, class := range append(outside(), 2, 3) {
			if n, e := p.open(full, class); n != 0 || e != api.ErrRange {
				t.Errorf("Open(%d, %d): %d, %d", full, class, n, e)
			}
		}
	}
	for _, dst := range append(outside(), 1, 3, 4, 7, 8) {
		for _, class := range []int{0, 1, 2} {
			if n, e := p.open(dst, class); n != 0 || e != api.ErrRange {
				t.Errorf("Open(%d, %d): %d, %d", dst, class, n, e)
			}
		}
	}
	if n, e := p.open(2, 1); n != 1 || e != api.OK {
		t.Errorf("Open after refusals: %d, %d", n, e)
	}
	p.agree("refusals")
}

// finish closes a connection, and acknowledges all of it.
func (p *pair) finish(dst, conn int) {
	p.t.Helper()
	p.close(dst, conn)
	p.get(api.Packet{Kind: api.Pull, Src: dst, Dst: p.m.id, Conn: conn, Pull: 1 << 60})
	for seq := range 40 {
		p.get(api.Packet{Kind: api.Ack, Src: dst, Dst: p.m.id, Conn: conn, Seq: seq})
	}
}

func TestOpenFillsTheTable(t *testing.T) {
	for _, table := range []int{1, 2, 3, 31, 32, 63, 64} {
		p := made(t, with(func(c *api.Conf) { c.Table = table }), 0)
		for want := 1; want <= table; want++ {
			if n, e := p.open(1, 0); n != want || e != api.OK {
				t.Fatalf("table %d: Open %d, %d, not %d", table, n, e, want)
			}
		}
		for range 3 {
			if n, e := p.open(1, 0); n != 0 || e != api.ErrTable {
				t.Errorf("full table %d: Open %d, %d", table, n, e)
			}
		}
		if n, e := p.open(2, 0); n != 1 || e != api.OK {
			t.Errorf("table %d: Open to another %d, %d", table, n, e)
		}
		if len(p.h.Lines()) != table+1 {
			t.Errorf("table %d: %d lines", table, len(p.h.Lines()))
		}
	}
}

// TestOpenGoesWithTheFloor: what is done behind a connection that is not makes no room.
func TestOpenGoesWithTheFloor(t *testing.T) {
	p := made(t, with(func(c *api.Conf) { c.Table = 3 }), 0)
	for range 3 {
		p.open(1, 0)
	}
	p.finish(1, 2)
	p.finish(1, 3)
	if n, e := p.open(1, 0); e != api.ErrTable {
		t.Errorf("1 is not done: Open %d, %d", n, e)
	}
	p.finish(1, 1)
	for want := 4; want <= 6; want++ {
		if n, e := p.open(1, 0); n != want || e != api.OK {
			t.Errorf("all are done: Open %d, %d, not %d", n, e, want)
		}
	}
	if n, e := p.open(1, 0); e != api.ErrTable {
		t.Errorf("full again: Open %d, %d", n, e)
	}
	p.agree("floor")
}

func TestSendIsTheSenders(t *testing.T) {
	p := made(t, conf(), 0)
	p.open(1, 0)
	out, e := p.send(1, 1, []byte("hello world"))
	if e != api.OK || len(out) != 2 || string(out[0].Payload)+string(out[1].Payload) != "hello wo" {
		t.Errorf("Send: %+v, %d", out, e)
	}
	if l := p.h.Accepted(1, 1); len(l) != 1 || string(l[0]) != "hello world" {
		t.Errorf("Accepted %q", l)
	}
	if c := p.h.Counts(); c != (api.Counts{Sent: 2}) {
		t.Errorf("Counts %+v", c)
	}
}

func TestSendRefuses(t *testing.T) {
	p := made(t, conf(), 0) // room for 20 pieces of 4 bytes
	p.open(1, 0)
	p.open(1, 1)
	p.send(1, 1, []byte("abc"))
	for _, b := range [][]byte{nil, {}, text(1, 65537)} {
		if out, e := p.send(1, 1, b); out != nil || e != api.ErrCut {
			t.Errorf("Send of %d bytes: %v, %d", len(b), out, e)
		}
	}
	if out, e := p.send(1, 1, text(2, 77)); out != nil || e != api.ErrFull {
		t.Errorf("Send beyond the room: %v, %d", out, e)
	}
	if _, e := p.send(1, 1, text(2, 76)); e != api.OK {
		t.Errorf("Send that fits: %d", e)
	}
	if out, e := p.close(1, 1); out != nil || e != api.ErrFull {
		t.Errorf("Close beyond the room: %v, %d", out, e)
	}
	p.close(1, 2)
	if out, e := p.close(1, 2); out != nil || e != api.ErrClosed {
		t.Errorf("Close twice: %v, %d", out, e)
	}
	for _, b := range [][]byte{nil, []byte("x"), text(1, 65537)} {
		if out, e := p.send(1, 2, b); out != nil || e != api.ErrClosed {
			t.Errorf("Send behind Close: %v, %d", out, e)
		}
	}
	if l := p.h.Accepted(1, 1); len(l) != 2 || len(p.h.Accepted(1, 2)) != 0 {
		t.Errorf("Accepted %q, %q", l, p.h.Accepted(1, 2))
	}
	p.agree("refusals")
}

// TestNoSuchSender: also where a connection receives, and for bytes that no sender would take.
func TestNoSuchSender(t *testing.T) {
	p := made(t, conf(), 1)
	p.open(2, 0)
	p.get(data(0, 1, 1, api.First, "in"))
	for _, conn := range append(outside(), 0, 1, 2, 3) {
		for _, dst := range append(outside(), 0, 1, 3, 7, 8) {
			for _, b := range [][]byte{nil, []byte("a"), text(1, 65537)} {
				if out, e := p.send(dst, conn, b); out != nil || e != api.ErrNone {
					t.Errorf("Send(%d, %d): %v, %d", dst, conn, out, e)
				}
			}
			if out, e := p.close(dst, conn); out != nil || e != api.ErrNone {
				t.Errorf("Close(%d, %d): %v, %d", dst, conn, out, e)
			}
			if l := p.h.Accepted(dst, conn); len(l) != 0 {
				t.Errorf("Accepted(%d, %d): %q", dst, conn, l)
			}
		}
	}
	p.agree("none")
}

func TestDoneSendersAreRemoved(t *testing.T) {
	p := made(t, conf(), 0)
	p.open(1, 0)
	p.open(1, 0)
	p.send(1, 1, []byte("abc"))
	p.finish(1, 1)
	if l := p.h.Lines(); len(l) != 1 || l[0].Conn != 2 {
		t.Errorf("Lines %+v", l)
	}
	if out, e := p.send(1, 1, []byte("x")); out != nil || e != api.ErrNone {
		t.Errorf("Send: %v, %d", out, e)
	}
	if out, e := p.close(1, 1); out != nil || e != api.ErrNone {
		t.Errorf("Close: %v, %d", out, e)
	}
	if l := p.h.Accepted(1, 1); len(l) != 1 || string(l[0]) != "abc" {
		t.Errorf("Accepted %q", l)
	}
	if n := p.h.Counts().Stray; n == 0 { // the acks behind the last one
		t.Errorf("%d stray", n)
	}
}

// TestNothingIsDoneBeforeItIsClosed: all may be acknowledged long before.
func TestNothingIsDoneBeforeItIsClosed(t *testing.T) {
	p := made(t, conf(), 0)
	p.open(1, 0)
	p.send(1, 1, []byte("abc"))
	p.get(api.Packet{Kind: api.Ack, Src: 1, Dst: 0, Conn: 1})
	p.ticks(30)
	if l := p.h.Lines(); len(l) != 1 || l[0].Done {
		t.Errorf("Lines %+v", l)
	}
	p.close(1, 1)
	if l := p.h.Lines(); len(l) != 1 || l[0].Done {
		t.Errorf("Lines %+v", l)
	}
}

// P21.5: the others.

func TestLinesInOrder(t *testing.T) {
	p := made(t, with(func(c *api.Conf) { c.Hosts, c.Table = 4, 3 }), 2)
	for _, src := range []int{3, 0, 1} {
		for _, conn := range []int{2, 3, 1} {
			p.get(data(src, 2, conn, api.First, "x"))
		}
	}
	for _, dst := range []int{3, 1, 0, 1, 3, 3} {
		p.open(dst, 0)
	}
	var got [][3]int
	for _, l := range p.h.Lines() {
		got = append(got, [3]int{l.Src, l.Dst, l.Conn})
	}
	want := [][3]int{
		{2, 0, 1}, {2, 1, 1}, {2, 1, 2}, {2, 3, 1}, {2, 3, 2}, {2, 3, 3},
		{0, 2, 1}, {0, 2, 2}, {0, 2, 3}, {1, 2, 1}, {1, 2, 2}, {1, 2, 3}, {3, 2, 1}, {3, 2, 2}, {3, 2, 3},
	}
	if !slices.Equal(got, want) {
		t.Errorf("Lines %v, not %v", got, want)
	}
}

// TestMessagesStay: what was accepted and delivered on connections that are gone, and where there was none.
func TestMessagesStay(t *testing.T) {
	p := made(t, conf(), 0)
	for conn := 1; conn <= 5; conn++ {
		p.open(1, 0)
		p.send(1, conn, text(uint64(conn), conn))
		p.send(1, conn, text(uint64(conn), 2*conn))
		p.finish(1, conn)
		p.get(data(1, 0, conn, api.First+api.End, "one"))
		x := data(1, 0, conn, api.End, "two")
		x.Seq = 1
		p.get(x)
		x = data(1, 0, conn, api.Fin, "")
		x.Seq = 2
		p.get(x)
	}
	if len(p.h.Lines()) != 0 {
		t.Errorf("Lines %+v", p.h.Lines())
	}
	for conn := 1; conn <= 5; conn++ {
		if l := p.h.Accepted(1, conn); !sames(l, [][]byte{text(uint64(conn), conn), text(uint64(conn), 2*conn)}) {
			t.Errorf("%d accepted: %q", conn, l)
		}
		if l := p.h.Delivered(1, conn); !sames(l, [][]byte{[]byte("one"), []byte("two")}) {
			t.Errorf("%d delivered: %q", conn, l)
		}
	}
	for _, conn := range append(outside(), 0, 6) {
		if p.h.Accepted(1, conn) != nil || p.h.Delivered(1, conn) != nil || p.h.Accepted(2, conn) != nil || p.h.Delivered(conn, 1) != nil || p.h.Accepted(conn, 1) != nil {
			t.Errorf("messages of %d", conn)
		}
	}
}

// TestResultsAreNewMemory: what is done with them is nothing to the host.
func TestResultsAreNewMemory(t *testing.T) {
	p := made(t, conf(), 0)
	p.open(1, 0)
	out, _ := p.send(1, 1, []byte("hello world"))
	p.get(data(1, 0, 1, api.First+api.End, "in"))
	for range 2 {
		for _, x := range out {
			spoil(x.Payload)
		}
		for _, l := range [][][]byte{p.h.Accepted(1, 1), p.h.Delivered(1, 1)} {
			spoil(l[0])
			l[0] = nil
			_ = append(l, []byte("more"))
		}
		lines := p.h.Lines()
		clear(lines)
		p.agree("results were changed")
		out = p.ticks(12) // the timer sends its piece again
	}
}

func TestCountsOfWhatIsSent(t *testing.T) {
	p := made(t, conf(), 0)
	p.open(1, 0)
	sent, pulls := 0, 0
	count := func(l []api.Packet) {
		for _, x := range l {
			sent++
			if x.Kind == api.Pull {
				pulls++
			}
		}
		if c := p.h.Counts(); c.Sent != sent || c.Pulls != pulls {
			t.Errorf("Counts %+v, not %d, %d", c, sent, pulls)
		}
	}
	l, _ := p.send(1, 1, []byte("hello world"))
	count(l)
	l, _ = p.close(1, 1)
	count(l)
	for seq := range 4 {
		x := data(1, 0, 1, api.First, "in")
		x.Seq = seq
		count(p.get(x))
		count(p.tick())
	}
	count(p.get(api.Packet{Kind: api.Pull, Src: 1, Dst: 0, Conn: 1, Pull: 2}))
	count(p.ticks(30))
	if sent < 12 || pulls != 4 {
		t.Errorf("%d sent, %d pulls", sent, pulls)
	}
}

func TestForkGoesItsOwnWay(t *testing.T) {
	for seed := range uint64(12) {
		n := newNet(t, conf(), seed)
		for range 150 {
			n.step()
		}
		other := &net{source: n.source.Fork(), conns: n.conns, bytes: n.bytes + 1<<20, flying: slices.Clone(n.flying)}
		for _, h := range n.hosts {
			other.hosts = append(other.hosts, h.fork())
		}
		for range 30 { // by turns, so that what they share would be seen
			for range 5 {
				n.step()
				other.step()
				other.source.Next()
			}
			n.agree("itself")
			other.agree("fork")
		}
		if t.Failed() {
			t.Fatalf("seed %d", seed)
		}
	}
}

// TestForksKeepTheirOwnMessages: each adds some at the same place.
func TestForksKeepTheirOwnMessages(t *testing.T) {
	p := made(t, with(func(c *api.Conf) { c.Send, c.Window = 100, 100 }), 0)
	p.open(1, 0)
	for i := range 12 {
		f, g := p.fork(), p.fork()
		for n, x := range []*pair{f, p, g} {
			x.send(1, 1, []byte{byte(i), byte(n)})
			y := data(1, 0, 1, api.First+api.End, string([]byte{byte(i), byte(n)}))
			y.Seq = i
			x.get(y)
		}
		for _, x := range []*pair{f, p, g} {
			x.agree("messages")
		}
		if i%3 == 1 {
			p = g
		}
	}
}

// TestForkHasWhatIsNotTold: the next numbers, what is closed, and the turns of the pacer.
func TestForkHasWhatIsNotTold(t *testing.T) {
	p := made(t, conf(), 0)
	p.open(1, 0)
	p.finish(1, 1)
	p.get(data(2, 0, 1, api.First+api.Fin, ""))
	p.get(data(2, 0, 2, api.First, "x"))
	p.get(data(1, 0, 1, api.First, "x"))
	f := p.fork()
	if n, e := f.open(1, 0); n != 2 || e != api.OK {
		t.Errorf("Open %d, %d", n, e)
	}
	if out := f.get(data(2, 0, 1, api.First, "x")); len(out) != 1 || out[0].Kind != api.Ack || f.h.Counts().Refused != 0 {
		t.Errorf("a closed one: %+v", out)
	}
	for _, x := range []*pair{f, p} {
		out := x.ticks(4)
		if len(out) != 2 || out[0].Dst != 2 || out[1].Dst != 1 {
			t.Errorf("turns %+v", out)
		}
	}
	if n, e := p.open(1, 0); n != 2 || e != api.OK {
		t.Errorf("itself: Open %d, %d", n, e)
	}
}

// Hosts that neither New nor Fork made.

func notMade() map[string]*host.Host {
	var zero host.Host
	var none *host.Host
	refused, _ := host.New(api.Conf{}, 0)
	return map[string]*host.Host{"nil": nil, "zero": {}, "new": new(host.Host), "refused": refused, "its fork": zero.Fork(), "fork of nil": none.Fork()}
}

func TestNotMade(t *testing.T) {
	b := encoded(t, data(1, 0, 1, api.First, "x"))
	for what, h := range notMade() {
		for range 2 { // nor does any call make it one
			for _, n := range append(outside(), 0, 1) {
				if got, e := h.Open(n, n); got != 0 || e != api.ErrNil {
					t.Errorf("%s: Open(%d) %d, %d", what, n, got, e)
				}
				for _, m := range [][]byte{nil, []byte("a"), text(1, 65537)} {
					if out, e := h.Send(n, n, m); out != nil || e != api.ErrNil {
						t.Errorf("%s: Send %v, %d", what, out, e)
					}
				}
				if out, e := h.Close(n, n); out != nil || e != api.ErrNil {
					t.Errorf("%s: Close %v, %d", what, out, e)
				}
				if h.Accepted(n, n) != nil || h.Delivered(n, n) != nil {
					t.Errorf("%s: messages", what)
				}
			}
			for _, x := range [][]byte{nil, {1, 2, 3}, b} {
				if out, e := h.Arrive(x); out != nil || e != api.ErrNil {
					t.Errorf("%s: Arrive %v, %d", what, out, e)
				}
			}
			if h.Tick() != nil || h.Lines() != nil || h.Counts() != (api.Counts{}) || h.Fork() != nil {
				t.Errorf("%s: not nothing", what)
			}
		}
	}
}

// TestACopiedValueDoesNotPanic: what it answers is not said, but it answers.
func TestACopiedValueDoesNotPanic(t *testing.T) {
	for seed := range uint64(10) {
		n := newNet(t, conf(), seed)
		for range 100 {
			n.step()
		}
		one := n.hosts[0].h
		other := *one
		for i := range 60 {
			for _, h := range []*host.Host{one, &other, other.Fork(), one.Fork()} {
				conn := 1 + n.source.Below(4)
				h.Open(1, i%2)
				h.Send(1, conn, []byte("abcdefgh"))
				h.Arrive(encoded(t, data(1, 0, conn, api.First, "x")))
				h.Arrive(encoded(t, api.Packet{Kind: api.Ack, Src: 1, Dst: 0, Conn: conn, Seq: i % 9}))
				h.Tick()
				if i%7 == 0 {
					h.Close(1, conn)
					h.Arrive(encoded(t, data(1, 0, conn, api.First+api.Fin, "")))
				}
				h.Lines()
				h.Accepted(1, conn)
				h.Delivered(1, conn)
				h.Counts()
			}
		}
	}
}
