package world_test

import (
	"bytes"
	"fmt"
	"math"
	"slices"
	"testing"

	"nozzle/api"
	"nozzle/draws"
	"nozzle/host"
	"nozzle/wire"
	"nozzle/world"
)

// P23.1: Check, New.

// setting is one of the settings, with its limits.
type setting struct {
	name        string
	least, most int
	field       func(c *api.Conf) *int
	e           api.Errno
}

// settings are all that have limits, in the order in which their errors are told.
func settings() []setting {
	return []setting{
		{"Paths", 1, 8, func(c *api.Conf) *int { return &c.Paths }, api.ErrSender},
		{"Mtu", 1, 1024, func(c *api.Conf) *int { return &c.Mtu }, api.ErrSender},
		{"Window", 2, 256, func(c *api.Conf) *int { return &c.Window }, api.ErrSender}, // First is 2
		{"First", 1, 6, func(c *api.Conf) *int { return &c.First }, api.ErrSender},     // Window is 6
		{"Rto", 1, 20, func(c *api.Conf) *int { return &c.Rto }, api.ErrSender},        // Cap is 20
		{"Cap", 5, 1 << 20, func(c *api.Conf) *int { return &c.Cap }, api.ErrSender},   // Rto is 5
		{"Rest", 0, 1 << 20, func(c *api.Conf) *int { return &c.Rest }, api.ErrSender},
		{"Send", 1, 4096, func(c *api.Conf) *int { return &c.Send }, api.ErrSender},
		{"Hosts", 2, 8, func(c *api.Conf) *int { return &c.Hosts }, api.ErrHost},
		{"Table", 1, 64, func(c *api.Conf) *int { return &c.Table }, api.ErrHost},
		{"Low", 1, 1024, func(c *api.Conf) *int { return &c.Low }, api.ErrPort},
		{"High", 1, 1024, func(c *api.Conf) *int { return &c.High }, api.ErrPort},
		{"Weight", 1, 1024, func(c *api.Conf) *int { return &c.Weight }, api.ErrPort},
	}
}

// tells holds Check and New against an error that both are to tell.
func tells(t *testing.T, what string, c api.Conf, want api.Errno) {
	t.Helper()
	if e := world.Check(c); e != want {
		t.Errorf("%s: Check(%+v) %d, not %d", what, c, e, want)
	}
	w, e := world.New(c)
	if e != want || (w == nil) != (want != api.OK) {
		t.Errorf("%s: New(%+v) %v, %d, not %d", what, c, w, e, want)
	}
}

func TestSettingsAtTheirLimits(t *testing.T) {
	for _, s := range settings() {
		for _, n := range []int{s.least, s.least + 1, (s.least + s.most) / 2, s.most - 1, s.most} {
			c := conf()
			*s.field(&c) = n
			tells(t, s.name, c, api.OK)
		}
	}
}

func TestSettingsBeyondTheirLimits(t *testing.T) {
	for _, s := range settings() {
		for _, n := range append(outside(), s.least-1, s.most+1) {
			if s.least <= n && n <= s.most {
				continue
			}
			c := conf()
			*s.field(&c) = n
			tells(t, s.name, c, s.e)
		}
	}
	tells(t, "no settings", api.Conf{}, api.ErrSender)
}

func TestAnySeed(t *testing.T) {
	for _, n := range append(outside(), 0, 1) {
		tells(t, "Seed", with(func(c *api.Conf) { c.Seed = n }), api.OK)
	}
}

// TestTheHostsErrorComesFirst: of two settings that may not be, and of all.
func TestTheHostsErrorComesFirst(t *testing.T) {
	order := map[api.Errno]int{api.ErrSender: 0, api.ErrHost: 1, api.ErrPort: 2}
	for _, a := range settings() {
		for _, b := range settings() {
			c := conf()
			*a.field(&c), *b.field(&c) = a.least-1, b.least-1
			want := a.e
			if order[b.e] < order[a.e] {
				want = b.e
			}
			tells(t, a.name+" and "+b.name, c, want)
		}
	}
	tells(t, "all", api.Conf{Hosts: -1, Paths: -1, Mtu: -1, First: -1, Window: -1, Low: -1, High: -1, Weight: -1, Rto: -1, Cap: -1, Rest: -1, Table: -1, Send: -1}, api.ErrSender)
}

func TestNewHasNothing(t *testing.T) {
	w, _ := world.New(with(func(c *api.Conf) { c.Hosts, c.Paths = 8, 8 }))
	if w.Steps() != 0 || w.Fabric() != [5]int{} || len(busyOf(w)) > 0 {
		t.Errorf("%d steps, %v, %v", w.Steps(), w.Fabric(), busyOf(w))
	}
	for id := range 8 {
		if len(w.Lines(id)) > 0 || w.Counts(id) != (api.Counts{}) {
			t.Errorf("host %d: %v, %v", id, w.Lines(id), w.Counts(id))
		}
		for path := range 8 {
			if low, high := w.Lens(path, id); low != 0 || high != 0 {
				t.Errorf("port %d, %d: %d, %d", path, id, low, high)
			}
		}
	}
}

// TestEachNumberOfHostsAndPaths: every host sends to every other one, over every path.
func TestEachNumberOfHostsAndPaths(t *testing.T) {
	for hosts := 2; hosts <= 8; hosts++ {
		for paths := 1; paths <= 8; paths++ {
			c := with(func(c *api.Conf) { c.Hosts, c.Paths, c.First, c.Window, c.Low, c.High = hosts, paths, 8, 8, 64, 99 })
			p := made(t, c)
			for src := range hosts {
				for dst := range hosts {
					if src != dst {
						p.do(api.Step{Op: api.Open, Host: src, Peer: dst})
						p.do(api.Step{Op: api.Send, Host: src, Peer: dst, Conn: 1, Bytes: text(uint64(8*src+dst), 32)})
					}
				}
			}
			for path, id := range p.w.Busy() {
				for low, _ := p.w.Lens(path, id); low > 0; low-- {
					p.do(api.Step{Op: api.Serve, Path: path, Host: id, Fate: api.Deliver})
				}
			}
			p.agree("all to all")
			if n := p.w.Fabric()[0]; n != hosts*(hosts-1)*8 {
				t.Errorf("%d hosts, %d paths: %d packets came out", hosts, paths, n)
			}
		}
	}
}

// P23.2: Do.

// TestTheExample: the message is there once the port of each path has served.
func TestTheExample(t *testing.T) {
	w, _ := world.New(with(func(c *api.Conf) { c.Hosts = 2 }))
	if x := w.Do(api.Step{Op: api.Open, Host: 0, Peer: 1}); !sameTold(x, api.Told{Conn: 1}) {
		t.Errorf("Open: %+v", x)
	}
	if x := w.Do(api.Step{Op: api.Send, Host: 0, Peer: 1, Conn: 1, Bytes: []byte("hello")}); !sameTold(x, api.Told{}) {
		t.Errorf("Send: %+v", x)
	}
	for path := range 2 {
		if len(w.Delivered(0, 1, 1)) != 0 {
			t.Errorf("path %d: %q", path, w.Delivered(0, 1, 1))
		}
		if x := w.Do(api.Step{Op: api.Serve, Path: path, Host: 1, Fate: api.Deliver}); x.E != api.OK || x.Arrived != 1 {
			t.Errorf("Serve: %+v", x)
		}
	}
	if l := w.Delivered(0, 1, 1); !sames(l, [][]byte{[]byte("hello")}) {
		t.Errorf("Delivered %q", l)
	}
}

// ahead is a pair in which host 0 has sent "abcdefgh" to host 1 on connection 1, over one path: two packets wait.
func ahead(t *testing.T, change func(c *api.Conf)) *pair {
	t.Helper()
	p := made(t, with(func(c *api.Conf) { c.Paths = 1; change(c) }))
	p.gets(api.Step{Op: api.Open, Host: 0, Peer: 1}, api.Told{Conn: 1})
	p.gets(api.Step{Op: api.Send, Host: 0, Peer: 1, Conn: 1, Bytes: []byte("abcdefgh")}, api.Told{})
	return p
}

// gets lets a step happen of which that is to come.
func (p *pair) gets(s api.Step, want api.Told) {
	p.t.Helper()
	if got := p.do(s); !sameTold(got, want) {
		p.t.Errorf("Do(%+v): %+v, not %+v", s, got, want)
	}
}

func (p *pair) lens(path, host, low, high int) {
	p.t.Helper()
	if l, h := p.w.Lens(path, host); l != low || h != high {
		p.t.Errorf("Lens(%d, %d): %d, %d, not %d, %d", path, host, l, h, low, high)
	}
}

func TestUnknownOpsAreRefusedAndCount(t *testing.T) {
	p := ahead(t, func(*api.Conf) {})
	ops := []api.Op{api.NoOp, api.Inject + 1, 8, 16, 256 + api.Tick, 1<<32 + api.Tick, -api.Open, -1, math.MinInt, math.MaxInt}
	for i, op := range ops {
		for _, id := range []int{0, 1, 2, -1, 3, 8, math.MaxInt} {
			p.gets(api.Step{Op: op, Host: id, Peer: 1, Conn: 1, Fate: api.Deliver, Bytes: []byte("x")}, api.Told{E: api.ErrWorld})
		}
		if n := p.w.Steps(); n != 2+7*(i+1) {
			t.Errorf("%d steps", n)
		}
	}
	p.agree("unknown ops")
	p.lens(0, 1, 2, 0)
}

func TestStepsOfNoHostAreRefusedAndCount(t *testing.T) {
	for hosts := 2; hosts <= 8; hosts++ {
		p := made(t, with(func(c *api.Conf) { c.Hosts = hosts }))
		n := 0
		for op := api.Open; op <= api.Inject; op++ {
			for _, id := range append(outside(), hosts, hosts+1) {
				p.gets(api.Step{Op: op, Host: id, Peer: 1, Class: 3, Conn: 1, Path: 99, Fate: 99}, api.Told{E: api.ErrRange})
				n++
			}
			p.do(api.Step{Op: op, Host: hosts - 1})
			n++
		}
		if p.w.Steps() != n {
			t.Errorf("%d steps, not %d", p.w.Steps(), n)
		}
		p.agree("no host")
	}
}

func TestOpen(t *testing.T) {
	p := made(t, conf())
	for want := 1; want <= 2; want++ {
		for src := range 3 {
			for dst := range 3 {
				if src != dst {
					p.gets(api.Step{Op: api.Open, Host: src, Peer: dst, Class: want - 1, Conn: 7, Path: 9, Fate: 9, Bytes: []byte("x")}, api.Told{Conn: want})
				}
			}
		}
	}
	if l := p.w.Lines(2); len(l) != 4 || l[1] != (api.Line{Src: 2, Dst: 0, Conn: 2, Class: 1}) {
		t.Errorf("%+v", l)
	}
	p.gets(api.Step{Op: api.Open, Host: 0, Peer: 1}, api.Told{E: api.ErrTable})
	for _, peer := range append(outside(), 0, 3) {
		p.gets(api.Step{Op: api.Open, Host: 0, Peer: peer}, api.Told{E: api.ErrRange})
	}
	for _, class := range append(outside(), 2) {
		p.gets(api.Step{Op: api.Open, Host: 0, Peer: 1, Class: class}, api.Told{E: api.ErrRange})
	}
	if p.w.Fabric() != [5]int{} {
		t.Errorf("%v", p.w.Fabric())
	}
	p.agree("Open")
}

func TestSendPutsWhatMayBeSent(t *testing.T) {
	p := ahead(t, func(c *api.Conf) { c.First, c.Send = 3, 5 })
	p.lens(0, 1, 2, 0)
	p.gets(api.Step{Op: api.Send, Host: 0, Peer: 1, Conn: 1, Class: 9, Path: 9, Fate: 9, Bytes: []byte("ijklmn")}, api.Told{})
	p.lens(0, 1, 3, 0)
	for want := range 3 {
		if x := p.served(0, 1, api.Deliver); x.Seq != want {
			t.Errorf("%+v, not %d", x, want)
		}
	}
	if l := p.w.Accepted(0, 1, 1); !sames(l, [][]byte{[]byte("abcdefgh"), []byte("ijklmn")}) {
		t.Errorf("Accepted %q", l)
	}
	if n := p.w.Fabric(); n != [5]int{3, 6, 0, 0, 0} {
		t.Errorf("Fabric %v", n)
	}
}

// served lets a port serve, and answers the packet of the bytes that it told.
func (p *pair) served(path, host int, fate api.Fate) api.Packet {
	p.t.Helper()
	told := p.do(api.Step{Op: api.Serve, Path: path, Host: host, Fate: fate})
	x, e := wire.Decode(told.Bytes)
	if e != api.OK || told.E != api.OK || told.Arrived != 1 {
		p.t.Fatalf("Serve(%d, %d, %d): %+v, %d", path, host, fate, told, e)
	}
	return x
}

func TestSendIsRefused(t *testing.T) {
	p := ahead(t, func(c *api.Conf) { c.Send = 3 })
	send := func(peer, conn int, b []byte, e api.Errno) {
		t.Helper()
		p.gets(api.Step{Op: api.Send, Host: 0, Peer: peer, Conn: conn, Bytes: b}, api.Told{E: e})
	}
	for _, n := range append(outside(), 0, 2) {
		send(n, 1, []byte("x"), api.ErrNone)
		send(1, n, []byte("x"), api.ErrNone)
	}
	send(1, 1, nil, api.ErrCut)
	send(1, 1, make([]byte, 1<<16+1), api.ErrCut)
	send(1, 1, []byte("12345"), api.ErrFull)
	p.gets(api.Step{Op: api.Send, Host: 1, Peer: 0, Conn: 1, Bytes: []byte("x")}, api.Told{E: api.ErrNone})
	send(1, 1, []byte("1234"), api.OK)
	p.gets(api.Step{Op: api.Close, Host: 0, Peer: 1, Conn: 1}, api.Told{E: api.ErrFull})
	if l := p.w.Accepted(0, 1, 1); len(l) != 2 || p.w.Steps() != 2+2*len(append(outside(), 0, 2))+6 {
		t.Errorf("Accepted %q, %d steps", l, p.w.Steps())
	}
	p.agree("Send")
}

func TestClosePutsTheEnd(t *testing.T) {
	p := ahead(t, func(c *api.Conf) { c.First = 3 })
	p.gets(api.Step{Op: api.Close, Host: 0, Peer: 1, Conn: 1, Class: 9, Path: 9, Fate: 9, Bytes: []byte("x")}, api.Told{})
	p.lens(0, 1, 2, 1)
	if x := p.served(0, 1, api.Deliver); x.Flags != api.Fin+api.First || x.Seq != 2 {
		t.Errorf("%+v", x)
	}
	p.gets(api.Step{Op: api.Close, Host: 0, Peer: 1, Conn: 1}, api.Told{E: api.ErrClosed})
	p.gets(api.Step{Op: api.Send, Host: 0, Peer: 1, Conn: 1, Bytes: []byte("x")}, api.Told{E: api.ErrClosed})
	for _, n := range append(outside(), 0, 2) {
		p.gets(api.Step{Op: api.Close, Host: 0, Peer: n, Conn: 1}, api.Told{E: api.ErrNone})
		p.gets(api.Step{Op: api.Close, Host: 0, Peer: 1, Conn: n}, api.Told{E: api.ErrNone})
	}
	p.gets(api.Step{Op: api.Close, Host: 1, Peer: 0, Conn: 1}, api.Told{E: api.ErrNone})
	p.agree("Close")
}

func TestServeDelivers(t *testing.T) {
	p := ahead(t, func(*api.Conf) {})
	want := api.Packet{Kind: api.Data, Flags: api.First, Src: 0, Dst: 1, Conn: 1, Payload: []byte("abcd")}
	p.gets(api.Step{Op: api.Serve, Host: 1, Peer: 9, Class: 9, Conn: 9, Fate: api.Deliver, Bytes: []byte("x")}, api.Told{Bytes: encoded(t, want), Arrived: 1})
	p.lens(0, 1, 1, 0)
	p.lens(0, 0, 0, 1)
	if x := p.served(0, 0, api.Deliver); !wire.Same(x, api.Packet{Kind: api.Ack, Src: 1, Dst: 0, Conn: 1}) {
		t.Errorf("%+v", x)
	}
	if n := p.w.Fabric(); n != [5]int{2, 3, 0, 0, 0} || p.w.Counts(1).Arrived != 1 || p.w.Counts(0).Arrived != 1 {
		t.Errorf("%v, %+v, %+v", n, p.w.Counts(0), p.w.Counts(1))
	}
}

func TestServeDrops(t *testing.T) {
	p := ahead(t, func(*api.Conf) {})
	p.gets(api.Step{Op: api.Serve, Host: 1, Fate: api.Drop}, api.Told{})
	p.lens(0, 1, 1, 0)
	p.lens(0, 0, 0, 0)
	if x := p.served(0, 1, api.Deliver); x.Seq != 1 || p.w.Counts(1).Arrived != 1 {
		t.Errorf("%+v, %+v", x, p.w.Counts(1))
	}
}

func TestServeDelays(t *testing.T) {
	p := ahead(t, func(*api.Conf) {})
	p.gets(api.Step{Op: api.Serve, Host: 1, Fate: api.Delay}, api.Told{})
	p.lens(0, 1, 2, 0)
	p.lens(0, 0, 0, 0)
	for _, want := range []int{1, 0} {
		if x := p.served(0, 1, api.Deliver); x.Seq != want {
			t.Errorf("%+v, not %d", x, want)
		}
	}
}

func TestServeDoubles(t *testing.T) {
	p := ahead(t, func(*api.Conf) {})
	for _, want := range []int{0, 1, 0} {
		if x := p.served(0, 1, api.Double); x.Seq != want {
			t.Errorf("%+v, not %d", x, want)
		}
		p.lens(0, 1, 2, 0)
	}
	p.lens(0, 0, 0, 3)
}

func TestServeIsRefused(t *testing.T) {
	p := ahead(t, func(*api.Conf) {})
	for _, path := range append(outside(), 1) {
		for _, fate := range []api.Fate{api.Deliver, api.Drop, api.NoFate, 5} {
			p.gets(api.Step{Op: api.Serve, Host: 1, Path: path, Fate: fate}, api.Told{E: api.ErrRange})
		}
	}
	for _, fate := range append(outside(), 0, 5) {
		p.gets(api.Step{Op: api.Serve, Host: 1, Fate: api.Fate(fate)}, api.Told{E: api.ErrPort})
		p.gets(api.Step{Op: api.Serve, Host: 0, Fate: api.Fate(fate)}, api.Told{E: api.ErrPort})
	}
	for fate := api.Deliver; fate <= api.Double; fate++ {
		p.gets(api.Step{Op: api.Serve, Host: 0, Fate: fate}, api.Told{E: api.ErrNone})
	}
	p.lens(0, 1, 2, 0)
	p.agree("Serve")
}

// TestPacketsArePutInOrder: as many as there is room for are kept, the next ones are cut, then returned, then lost.
func TestPacketsArePutInOrder(t *testing.T) {
	p := made(t, with(func(c *api.Conf) { c.Paths, c.First, c.Window, c.Low, c.High = 1, 8, 8, 2, 3 }))
	p.do(api.Step{Op: api.Open, Host: 0, Peer: 1})
	p.do(api.Step{Op: api.Send, Host: 0, Peer: 1, Conn: 1, Bytes: text(1, 31)})
	if n := p.w.Fabric(); n != [5]int{0, 2, 3, 3, 0} {
		t.Errorf("Fabric %v", n)
	}
	p.do(api.Step{Op: api.Open, Host: 0, Peer: 1})
	p.do(api.Step{Op: api.Send, Host: 0, Peer: 1, Conn: 2, Bytes: text(2, 7)})
	if n := p.w.Fabric(); n != [5]int{0, 2, 3, 3, 2} {
		t.Errorf("Fabric %v", n)
	}
	for want := 5; want < 8; want++ {
		if x := p.served(0, 0, api.Deliver); x.Flags != api.First+api.Trimmed+api.Bounced+want/7*api.End || x.Seq != want {
			t.Errorf("%+v, not %d", x, want)
		}
	}
}

func TestTickPutsThePullAndWhatTimersSend(t *testing.T) {
	p := ahead(t, func(c *api.Conf) { c.Rto = 1 })
	p.do(api.Step{Op: api.Open, Host: 1, Peer: 0})
	p.do(api.Step{Op: api.Send, Host: 1, Peer: 0, Conn: 1, Bytes: []byte("zz")})
	p.served(0, 1, api.Deliver)
	p.served(0, 0, api.Deliver)
	p.gets(api.Step{Op: api.Tick, Host: 1, Peer: 9, Class: 9, Conn: 9, Path: 9, Fate: 9, Bytes: []byte("x")}, api.Told{})
	p.lens(0, 0, 2, 1)
	if x := p.served(0, 0, api.Deliver); x.Kind != api.Pull || x.Pull != 1 {
		t.Errorf("%+v", x)
	}
	if c := p.w.Counts(1); c.Sent != 4 || c.Pulls != 1 {
		t.Errorf("%+v", c)
	}
	p.gets(api.Step{Op: api.Tick, Host: 2}, api.Told{})
	p.agree("Tick")
}

func TestInject(t *testing.T) {
	p := ahead(t, func(*api.Conf) {})
	inject := func(b []byte, e api.Errno) {
		t.Helper()
		p.gets(api.Step{Op: api.Inject, Host: 1, Peer: 9, Class: 9, Conn: 9, Path: 9, Fate: 9, Bytes: b}, api.Told{E: e, Arrived: 1})
	}
	x := api.Packet{Kind: api.Data, Flags: api.First, Src: 0, Dst: 1, Conn: 1, Payload: []byte("abcd")}
	b := encoded(t, x)
	inject(nil, api.ErrShort)
	inject(b[:35], api.ErrShort)
	inject(b[:39], api.ErrWire)
	inject(append(bytes.Clone(b[:39]), 'e'), api.ErrSum)
	inject(make([]byte, 1<<20), api.ErrWire)
	if l := p.w.Lines(1); len(l) != 0 {
		t.Errorf("%+v", l)
	}
	x.Dst = 2
	inject(encoded(t, x), api.ErrHost)
	x.Dst, x.Src = 1, 3
	inject(encoded(t, x), api.ErrHost)
	p.lens(0, 0, 0, 0)
	inject(b, api.OK)
	p.lens(0, 0, 0, 1)
	x.Src, x.Conn, x.Flags = 2, 5, 0
	inject(encoded(t, x), api.OK)
	if c := p.w.Counts(1); c != (api.Counts{Arrived: 9, Bad: 5, Wrong: 2, Stray: 1, Sent: 1}) {
		t.Errorf("%+v", c)
	}
	if n := p.w.Fabric(); n != [5]int{0, 3, 0, 0, 0} {
		t.Errorf("Fabric %v", n)
	}
	p.agree("Inject")
}

// TestAnswersWithoutAPortAreLost: a packet on a path that the world has not is answered there.
func TestAnswersWithoutAPortAreLost(t *testing.T) {
	p := made(t, conf())
	for path := range 8 {
		x := api.Packet{Kind: api.Data, Flags: api.First, Path: path, Src: 0, Dst: 1, Conn: 1, Seq: path % 2, Payload: []byte("abcd")}
		p.gets(api.Step{Op: api.Inject, Host: 1, Bytes: encoded(t, x)}, api.Told{Arrived: 1})
	}
	if n := p.w.Fabric(); n != [5]int{0, 2, 0, 0, 6} {
		t.Errorf("Fabric %v", n)
	}
	p.agree("no port")
}

// TestTheLastStep: beyond it nothing happens any more, nor is it counted.
func TestTheLastStep(t *testing.T) {
	p := ahead(t, func(*api.Conf) {})
	for range 1<<20 - 3 {
		p.w.Do(api.Step{})
	}
	p.m.steps = 1<<20 - 1
	p.agree("nearly the last step")
	fork := p.fork()
	serve := api.Step{Op: api.Serve, Host: 1, Fate: api.Deliver}
	p.served(0, 1, api.Deliver)
	fork.gets(api.Step{Op: 9}, api.Told{E: api.ErrWorld}) // this one counts, and so is the last one
	for _, p := range []*pair{p, fork, p.fork()} {
		for _, s := range []api.Step{serve, {Op: api.Tick}, {Op: api.Open, Peer: 2}, {Op: api.Inject}, {}, {Op: 9}, {Op: api.Tick, Host: 9}} {
			p.gets(s, api.Told{E: api.ErrMany})
		}
		if n := p.w.Steps(); n != 1<<20 {
			t.Errorf("%d steps", n)
		}
		if l := p.w.Run(serve, serve); len(l) != 2 || l[0].E != api.ErrMany || l[1].E != api.ErrMany {
			t.Errorf("Run: %+v", l)
		}
		p.agree("the last step")
	}
}

// P23.3: the others.

func TestRunTellsWhatDoTells(t *testing.T) {
	for seed := range uint64(20) {
		c := confOf(draws.New(seed))
		p, a := made(t, c), newAuthor(c, seed, true)
		other, _ := world.New(c)
		for range 20 {
			var steps []api.Step
			var want []api.Told
			for range a.source.Below(30) {
				s := a.next(p.w)
				told := p.do(s)
				a.see(told)
				steps, want = append(steps, s), append(want, told)
			}
			if got := other.Run(steps...); !slices.EqualFunc(got, want, sameTold) {
				t.Fatalf("Run(%+v): %+v, not %+v", steps, got, want)
			}
			(&pair{t, other, p.m}).agree("Run")
		}
	}
}

func TestRunOfNothing(t *testing.T) {
	w, _ := world.New(conf())
	if l := w.Run(); len(l) != 0 || w.Steps() != 0 {
		t.Errorf("%v, %d", l, w.Steps())
	}
}

func TestRunGoesOnPastErrors(t *testing.T) {
	w, _ := world.New(conf())
	l := w.Run(api.Step{}, api.Step{Op: api.Tick, Host: 3}, api.Step{Op: api.Send, Peer: 1, Conn: 1}, api.Step{Op: api.Open, Peer: 1}, api.Step{Op: api.Inject, Bytes: []byte("abc")})
	want := []api.Told{{E: api.ErrWorld}, {E: api.ErrRange}, {E: api.ErrNone}, {Conn: 1}, {E: api.ErrShort, Arrived: 1}}
	if !slices.EqualFunc(l, want, sameTold) || w.Steps() != 5 {
		t.Errorf("%+v, %d", l, w.Steps())
	}
}

// TestRunLeavesTheStepsAlone: neither they nor their bytes are changed or kept.
func TestRunLeavesTheStepsAlone(t *testing.T) {
	p := made(t, conf())
	steps := []api.Step{{Op: api.Open, Peer: 1}, {Op: api.Send, Peer: 1, Conn: 1, Bytes: []byte("abc")}}
	p.w.Run(steps...)
	for _, s := range steps {
		p.m.do(s)
	}
	if string(steps[1].Bytes) != "abc" {
		t.Errorf("%q", steps[1].Bytes)
	}
	spoil(steps[1].Bytes)
	steps[0] = api.Step{}
	p.agree("Run")
}

// TestHostsThatThereAreNot: nothing is told of them.
func TestHostsThatThereAreNot(t *testing.T) {
	p := ahead(t, func(*api.Conf) {})
	p.served(0, 1, api.Deliver)
	for _, n := range append(outside(), 3, 4, 7) {
		if l := p.w.Lines(n); len(l) != 0 {
			t.Errorf("Lines(%d) %v", n, l)
		}
		if c := p.w.Counts(n); c != (api.Counts{}) {
			t.Errorf("Counts(%d) %v", n, c)
		}
		for _, l := range [][][]byte{
			p.w.Accepted(n, 1, 1), p.w.Accepted(0, n, 1), p.w.Accepted(0, 1, n),
			p.w.Delivered(n, 1, 1), p.w.Delivered(0, n, 1), p.w.Delivered(0, 1, n),
		} {
			if len(l) != 0 {
				t.Errorf("%d: %q", n, l)
			}
		}
		for _, at := range [][2]int{{n, 1}, {0, n}, {n, n}} {
			if low, high := p.w.Lens(at[0], at[1]); low != 0 || high != 0 {
				t.Errorf("Lens(%v): %d, %d", at, low, high)
			}
		}
	}
}

// TestAcceptedAndDeliveredOfOneDirection: not of the other one, which has the same number.
func TestAcceptedAndDeliveredOfOneDirection(t *testing.T) {
	p := ahead(t, func(*api.Conf) {})
	p.do(api.Step{Op: api.Open, Host: 1, Peer: 0})
	p.do(api.Step{Op: api.Send, Host: 1, Peer: 0, Conn: 1, Bytes: []byte("ijk")})
	p.served(0, 1, api.Deliver)
	p.served(0, 1, api.Deliver)
	there, back := [][]byte{[]byte("abcdefgh")}, [][]byte{[]byte("ijk")}
	if !sames(p.w.Accepted(0, 1, 1), there) || !sames(p.w.Accepted(1, 0, 1), back) || !sames(p.w.Delivered(0, 1, 1), there) || len(p.w.Delivered(1, 0, 1)) != 0 {
		t.Errorf("%q, %q", p.w.Accepted(0, 1, 1), p.w.Delivered(1, 0, 1))
	}
	for range 3 {
		p.served(0, 0, api.Deliver)
	}
	if !sames(p.w.Delivered(1, 0, 1), back) || !sames(p.w.Delivered(0, 1, 1), there) {
		t.Errorf("%q", p.w.Delivered(1, 0, 1))
	}
}

// crowd is a world whose every port has something.
func crowd(t *testing.T) *pair {
	t.Helper()
	p := made(t, with(func(c *api.Conf) { c.First, c.Window = 4, 4 }))
	for src := range 3 {
		dst := (src + 1) % 3
		p.do(api.Step{Op: api.Open, Host: src, Peer: dst})
		p.do(api.Step{Op: api.Send, Host: src, Peer: dst, Conn: 1, Bytes: text(uint64(src), 16)})
	}
	return p
}

func TestBusyAsFarAsItIsRangedOver(t *testing.T) {
	all := [][2]int{{0, 0}, {0, 1}, {0, 2}, {1, 0}, {1, 1}, {1, 2}}
	p := crowd(t)
	busy := p.w.Busy()
	for most := range 8 {
		var got [][2]int
		for path, id := range busy {
			if len(got) == most {
				break
			}
			got = append(got, [2]int{path, id})
		}
		if want := all[:min(most, 6)]; !slices.Equal(got, want) {
			t.Errorf("%v, not %v", got, want)
		}
	}
	p.agree("Busy")
}

// TestBusyWhileTheWorldChanges: each port that was busy has its turn, and one that becomes busy meanwhile has none.
func TestBusyWhileTheWorldChanges(t *testing.T) {
	p := ahead(t, func(*api.Conf) {})
	var got [][2]int
	for path, id := range p.w.Busy() {
		got = append(got, [2]int{path, id})
		p.served(path, id, api.Deliver)
		p.served(path, id, api.Deliver)
	}
	if !slices.Equal(got, [][2]int{{0, 1}}) || !slices.Equal(busyOf(p.w), [][2]int{{0, 0}}) {
		t.Errorf("%v, then %v", got, busyOf(p.w))
	}
	p = crowd(t)
	n := 0
	for range p.w.Busy() {
		for path, id := range p.w.Busy() {
			p.do(api.Step{Op: api.Serve, Path: path, Host: id, Fate: api.Drop})
		}
		n++
	}
	if n != 6 {
		t.Errorf("%d ports", n)
	}
}

// TestBusyIsOfTheTimeOfTheCall: not of the time when it is ranged over.
func TestBusyIsOfTheTimeOfTheCall(t *testing.T) {
	p := ahead(t, func(*api.Conf) {})
	busy := p.w.Busy()
	p.served(0, 1, api.Deliver)
	p.served(0, 1, api.Deliver)
	for range 2 {
		var got [][2]int
		for path, id := range busy {
			got = append(got, [2]int{path, id})
		}
		if !slices.Equal(got, [][2]int{{0, 1}}) {
			t.Errorf("%v", got)
		}
	}
}

// TestForksGoTheirOwnWays: each of them, and what they were forked from.
func TestForksGoTheirOwnWays(t *testing.T) {
	for seed := range uint64(20) {
		c := confOf(draws.New(seed))
		a := newAuthor(c, seed, true)
		all := []*pair{made(t, c)}
		for range 600 {
			i := a.source.Below(len(all))
			a.see(all[i].do(a.next(all[i].w)))
			if len(all) < 5 && a.source.Below(50) == 0 {
				all = append(all, all[i].fork())
			}
		}
		for i, p := range all {
			p.agree(fmt.Sprint("fork ", i))
		}
		if t.Failed() {
			t.Fatalf("seed %d", seed)
		}
	}
}

// TestForkHasTheSteps: and counts its own.
func TestForkHasTheSteps(t *testing.T) {
	p := ahead(t, func(*api.Conf) {})
	f := p.fork()
	f.do(api.Step{Op: api.Tick})
	if p.w.Steps() != 2 || f.w.Steps() != 3 || f.w.Fork().Steps() != 3 {
		t.Errorf("%d, %d", p.w.Steps(), f.w.Steps())
	}
}

// Worlds that neither New nor Fork made.

func notMade() map[string]*world.World {
	var none *world.World
	var zero world.World
	refused, _ := world.New(with(func(c *api.Conf) { c.High = 0 }))
	return map[string]*world.World{
		"nil": nil, "zero": {}, "new": new(world.World), "refused": refused,
		"fork of nil": none.Fork(), "fork of zero": zero.Fork(),
	}
}

func TestWorldsThatNobodyMade(t *testing.T) {
	if _, e := world.New(conf()); e != api.OK { // a world elsewhere makes nothing of these
		t.Error(e)
	}
	for name, w := range notMade() {
		for op := api.NoOp; op <= api.Inject+1; op++ {
			for id := -1; id < 3; id++ {
				if x := w.Do(api.Step{Op: op, Host: id, Peer: 1, Conn: 1, Fate: api.Deliver, Bytes: []byte("x")}); !sameTold(x, api.Told{E: api.ErrNil}) {
					t.Errorf("%s: Do(%d, %d) %+v", name, op, id, x)
				}
			}
		}
		if l := w.Run(api.Step{Op: api.Tick}, api.Step{}); l != nil {
			t.Errorf("%s: Run %v", name, l)
		}
		if w.Steps() != 0 || w.Fabric() != [5]int{} || len(busyOf(w)) > 0 || w.Fork() != nil {
			t.Errorf("%s: %d, %v, %v, %v", name, w.Steps(), w.Fabric(), busyOf(w), w.Fork())
		}
		for path, id := range places {
			low, high := w.Lens(path, id)
			if low != 0 || high != 0 || w.Lines(id) != nil || w.Counts(id) != (api.Counts{}) {
				t.Errorf("%s: %d, %d, %v, %v", name, low, high, w.Lines(id), w.Counts(id))
			}
			if w.Accepted(path, id, 1) != nil || w.Delivered(path, id, 1) != nil {
				t.Errorf("%s: %q, %q", name, w.Accepted(path, id, 1), w.Delivered(path, id, 1))
			}
		}
	}
}

// TestTheHostsAreThoseOfTheSettings: as a host alone answers, so it does in a world.
func TestTheHostsAreThoseOfTheSettings(t *testing.T) {
	c := with(func(c *api.Conf) { c.Paths, c.First, c.Window, c.Low = 8, 9, 20, 9 })
	h, _ := host.New(c, 2)
	h.Open(1, 1)
	want, _ := h.Send(1, 1, text(3, 36))
	w, _ := world.New(c)
	w.Run(api.Step{Op: api.Open, Host: 2, Peer: 1, Class: 1}, api.Step{Op: api.Send, Host: 2, Peer: 1, Conn: 1, Bytes: text(3, 36)})
	for _, x := range want {
		told := w.Do(api.Step{Op: api.Serve, Path: x.Path, Host: 1, Fate: api.Deliver})
		if !bytes.Equal(told.Bytes, encoded(t, x)) {
			t.Errorf("%v, not %+v", told.Bytes, x)
		}
	}
}
