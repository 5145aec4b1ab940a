package sender_test

import (
	"bytes"
	"math"
	"slices"
	"testing"

	"nozzle/api"
	"nozzle/draws"
	"nozzle/sender"
)

// P17.1: Check, New.

// setting is one of the settings that concern senders, and from where to where it is valid while the others are as in wide.
type setting struct {
	what        string
	least, most int
	set         func(c *api.Conf, n int)
}

// wide are settings that leave each of the others as much as there is.
func wide() api.Conf {
	return api.Conf{Paths: 1, Mtu: 1, Window: 256, First: 1, Rto: 1, Cap: 1 << 20, Rest: 0, Send: 1}
}

func settings() []setting {
	return []setting{
		{"Paths", 1, 8, func(c *api.Conf, n int) { c.Paths = n }},
		{"Mtu", 1, 1024, func(c *api.Conf, n int) { c.Mtu = n }},
		{"Window", 1, 256, func(c *api.Conf, n int) { c.Window = n }},
		{"First", 1, 256, func(c *api.Conf, n int) { c.First = n }},
		{"Rto", 1, 1 << 20, func(c *api.Conf, n int) { c.Rto = n }},
		{"Cap", 1, 1 << 20, func(c *api.Conf, n int) { c.Cap = n }},
		{"Rest", 0, 1 << 20, func(c *api.Conf, n int) { c.Rest = n }},
		{"Send", 1, 4096, func(c *api.Conf, n int) { c.Send = n }},
	}
}

// checks asks Check and New of settings.
func checks(t *testing.T, c api.Conf, want api.Errno) {
	t.Helper()
	if e := sender.Check(c); e != want {
		t.Errorf("Check(%+v): %d, not %d", c, e, want)
	}
	s, e := sender.New(c, 2, 5, 9, 1)
	if e != want || (s != nil) != (want == api.OK) {
		t.Errorf("New(%+v): %v, %d, not %d", c, s, e, want)
	}
}

func TestCheckOfEachSetting(t *testing.T) {
	checks(t, wide(), api.OK)
	for _, x := range settings() {
		for _, n := range []int{x.least, x.least + 1, (x.least + x.most) / 2, x.most - 1, x.most} {
			c := wide()
			x.set(&c, n)
			checks(t, c, api.OK)
		}
		for _, n := range append(outside(), x.least-1, x.most+1) {
			c := wide()
			x.set(&c, n)
			checks(t, c, api.ErrSender)
		}
	}
}

func TestCheckOfAllAtTheirLimits(t *testing.T) {
	checks(t, api.Conf{Paths: 1, Mtu: 1, Window: 1, First: 1, Rto: 1, Cap: 1, Rest: 0, Send: 1}, api.OK)
	checks(t, api.Conf{Paths: 8, Mtu: 1024, Window: 256, First: 256, Rto: 1 << 20, Cap: 1 << 20, Rest: 1 << 20, Send: 4096}, api.OK)
	checks(t, api.Conf{}, api.ErrSender)
}

func TestCheckOfFirstAndWindow(t *testing.T) {
	for _, window := range []int{0, 1, 2, 3, 4, 254, 255, 256, 257} {
		for _, first := range []int{-1, 0, 1, 2, 3, 4, 5, 253, 254, 255, 256, 257, 258} {
			want := api.ErrSender
			if 1 <= window && window <= 256 && 1 <= first && first <= window {
				want = api.OK
			}
			checks(t, with(func(c *api.Conf) { c.First, c.Window = first, window }), want)
		}
	}
}

func TestCheckOfRtoAndCap(t *testing.T) {
	edges := []int{-1, 0, 1, 2, 3, 4, 1<<20 - 1, 1 << 20, 1<<20 + 1}
	for _, rto := range edges {
		for _, most := range edges {
			want := api.ErrSender
			if 1 <= rto && rto <= most && most <= 1<<20 {
				want = api.OK
			}
			checks(t, with(func(c *api.Conf) { c.Rto, c.Cap = rto, most }), want)
		}
	}
}

// TestCheckOfOtherSettings: those that do not concern senders may be anything.
func TestCheckOfOtherSettings(t *testing.T) {
	for _, n := range append(outside(), 0, 1, 9) {
		checks(t, with(func(c *api.Conf) { c.Hosts = n }), api.OK)
		checks(t, with(func(c *api.Conf) { c.Low = n }), api.OK)
		checks(t, with(func(c *api.Conf) { c.High = n }), api.OK)
		checks(t, with(func(c *api.Conf) { c.Weight = n }), api.OK)
		checks(t, with(func(c *api.Conf) { c.Table = n }), api.OK)
		checks(t, with(func(c *api.Conf) { c.Seed = n }), api.OK)
	}
}

// refuses asks New of an end that there cannot be.
func refuses(t *testing.T, c api.Conf, src, dst, conn, class int, want api.Errno) {
	t.Helper()
	if s, e := sender.New(c, src, dst, conn, class); s != nil || e != want {
		t.Errorf("New(%+v, %d, %d, %d, %d): %v, %d, not %d", c, src, dst, conn, class, s, e, want)
	}
}

func TestNewOfEveryHost(t *testing.T) {
	for src := -2; src < 11; src++ {
		for dst := -2; dst < 11; dst++ {
			if 0 <= src && src <= 7 && 0 <= dst && dst <= 7 && src != dst {
				madeFor(t, conf(), src, dst, 1, 0).agree("new")
				continue
			}
			refuses(t, conf(), src, dst, 1, 0, api.ErrRange)
		}
	}
	for _, n := range outside() {
		refuses(t, conf(), n, 1, 1, 0, api.ErrRange)
		refuses(t, conf(), 1, n, 1, 0, api.ErrRange)
		refuses(t, conf(), n, n, 1, 0, api.ErrRange)
	}
}

func TestNewOfConnAndClass(t *testing.T) {
	for _, conn := range []int{1, 2, 64, 65, 1<<30 - 1, 1 << 30} {
		for class := range 2 {
			madeFor(t, conf(), 0, 7, conn, class).agree("new")
		}
	}
	for _, conn := range []int{math.MinInt, -1 << 30, -2, -1, 0, 1<<30 + 1, 1 << 31, 1<<32 + 1, 1 << 60, math.MaxInt} {
		refuses(t, conf(), 0, 7, conn, 0, api.ErrRange)
	}
	for _, class := range append(outside(), 2, 3, 32) {
		refuses(t, conf(), 0, 7, 1, class, api.ErrRange)
	}
}

func TestNewErrorsInOrder(t *testing.T) {
	for _, x := range settings() {
		c := wide()
		x.set(&c, x.least-1)
		refuses(t, c, 8, 8, 0, 2, api.ErrSender)
		refuses(t, c, 3, 3, 1, 0, api.ErrSender)
	}
}

func TestNewAcceptedNothing(t *testing.T) {
	for paths := 1; paths <= 8; paths++ {
		p := made(t, with(func(c *api.Conf) { c.Paths = paths }))
		p.agree("new")
		if got := p.s.Line(); got != (api.Line{Src: 2, Dst: 5, Conn: 9, Class: 1}) || p.s.Done() {
			t.Errorf("new: %+v", got)
		}
		if got := p.s.Active(); len(got) != paths || got[0] != 0 || got[paths-1] != paths-1 {
			t.Error("new:", got)
		}
		if out := p.skip(40); out != nil {
			t.Error("ticks without pieces:", out)
		}
		p.ack(0, 0)
		p.nack(0, 0)
		p.bounce(0, 0)
		p.pull(1)
		p.send([]byte("abcdefgh"))
		p.probe()
	}
}

func TestNewIsOneOfItsOwn(t *testing.T) {
	p := loaded(t, conf(), 3)
	other := loaded(t, conf(), 6)
	other.pull(4)
	for range 9 {
		other.nack(1, 2)
	}
	other.close()
	other.skip(5)
	p.agree("another was used")
	p.probe()
	made(t, conf()).probe()
}

// TestNewSeedsItsPaths: Seed, Src, Dst and Conn, and no other number, tell on which paths the packets go.
func TestNewSeedsItsPaths(t *testing.T) {
	paths := func(c api.Conf, src, dst, conn, class int) []int {
		c.Paths, c.Window, c.First, c.Send = 8, 64, 64, 64
		p := madeFor(t, c, src, dst, conn, class)
		p.send(text(1, 2*64))
		var out []int
		for _, x := range p.out {
			out = append(out, x.Path)
		}
		return out
	}
	base := paths(conf(), 2, 5, 9, 1)
	if l := []int{base[0], base[1], base[2], base[3], base[4], base[5], base[6], base[7]}; !slices.Equal(slices.Sorted(slices.Values(l)), []int{0, 1, 2, 3, 4, 5, 6, 7}) {
		t.Error("the first round:", l)
	}
	if !slices.Equal(base, paths(with(func(c *api.Conf) { c.Hosts, c.Table, c.Rto, c.Rest = 4, 2, 3, 0 }), 2, 5, 9, 0)) {
		t.Error("another number tells the paths")
	}
	for what, other := range map[string][]int{
		"Seed":  paths(with(func(c *api.Conf) { c.Seed = 8 }), 2, 5, 9, 1),
		"-Seed": paths(with(func(c *api.Conf) { c.Seed = -7 }), 2, 5, 9, 1),
		"Src":   paths(conf(), 3, 5, 9, 1),
		"Dst":   paths(conf(), 2, 4, 9, 1),
		"Conn":  paths(conf(), 2, 5, 10, 1),
		"back":  paths(conf(), 5, 2, 9, 1),
	} {
		if slices.Equal(base, other) {
			t.Error(what, "does not tell the paths")
		}
	}
}

// P17.2: Send, Close.

func TestExampleOfTheChapter(t *testing.T) {
	s, _ := sender.New(with(func(c *api.Conf) { c.Mtu = 1 }), 0, 1, 1, 0)
	out, e := s.Send([]byte("abc"))
	if e != api.OK || !are(out, 0, 1) || !slices.Equal(flags(out), []int{api.First, api.First}) || string(out[0].Payload)+string(out[1].Payload) != "ab" {
		t.Error("Send:", out, e)
	}
	out = s.Take(api.Packet{Kind: api.Pull, Pull: 1})
	if !are(out, 2) || out[0].Flags != api.End || string(out[0].Payload) != "c" || out[0].Kind != api.Data || out[0].Src != 0 || out[0].Dst != 1 || out[0].Conn != 1 {
		t.Error("Take:", out)
	}
}

func TestSendCutsMessages(t *testing.T) {
	for _, mtu := range []int{1, 2, 3, 7, 1023, 1024} {
		for _, count := range []int{1, 2, mtu, mtu + 1, 2*mtu - 1, 2 * mtu, 2*mtu + 1, 200} {
			p := made(t, with(func(c *api.Conf) { c.Mtu, c.Window, c.First, c.Send = mtu, 256, 256, 256 }))
			p.send([]byte("a"))
			m := text(1, count)
			out, e := p.send(m)
			var b []byte
			for i, x := range out {
				b = append(b, x.Payload...)
				if last := i == len(out)-1; x.Seq != 1+i || x.Flags&api.End != 0 != last || len(x.Payload) != mtu && !last {
					t.Errorf("mtu %d, %d bytes: %v", mtu, count, x)
				}
			}
			if e != api.OK || !bytes.Equal(b, m) {
				t.Errorf("mtu %d, %d bytes: %v, %d", mtu, count, out, e)
			}
		}
	}
}

func TestSendUpToFirst(t *testing.T) {
	for first := 1; first <= 6; first++ {
		for pieces := 1; pieces <= 8; pieces++ {
			for sends := 1; sends <= pieces; sends++ {
				p := made(t, with(func(c *api.Conf) { c.First, c.Window = first, 6 }))
				p.send(text(1, 2*sends))
				if pieces > sends {
					p.send(text(2, 2*(pieces-sends)))
				}
				if len(p.out) != min(first, pieces) || p.s.Line().Next != min(first, pieces) || p.s.Line().Spent != 0 {
					t.Errorf("first %d, pieces %d: %v", first, pieces, p.out)
				}
				for i, x := range p.out {
					if x.Seq != i || x.Flags&api.First == 0 {
						t.Errorf("first %d, pieces %d: %v", first, pieces, x)
					}
				}
			}
		}
	}
}

// TestFirstIsOfTheNumber: what is beyond the first window is never First, and what is in it always, also when it is sent again.
func TestFirstIsOfTheNumber(t *testing.T) {
	p := loaded(t, conf(), 4)
	p.nack(0, 0)
	p.pull(1)
	p.pull(2)
	p.nack(0, 2)
	p.pull(3)
	p.skip(9)
	for _, x := range p.out {
		if x.Flags != api.End+api.Urgent+map[bool]int{true: api.First}[x.Seq < 2] {
			t.Error(x)
		}
	}
	if !are(p.out, 0, 1, 0, 2, 2, 0, 0) {
		t.Error(seqs(p.out))
	}
}

func TestSendSpendsWhatWasPulledBefore(t *testing.T) {
	for pulled := range 8 {
		p := made(t, conf())
		p.pull(pulled)
		out, _ := p.send(text(1, 2*6))
		want := []int{0, 1, 2, 3}[:min(2+pulled, 4)] // the window has no more
		if !slices.Equal(seqs(out), want) || p.s.Line().Spent != len(want)-2 {
			t.Errorf("pulled %d: %v", pulled, out)
		}
		p.probe()
	}
}

func TestSendErrorsInOrder(t *testing.T) {
	p := loaded(t, with(func(c *api.Conf) { c.Mtu, c.Send = 1, 3 }), 3)
	for _, m := range [][]byte{nil, {}, make([]byte, 65537), make([]byte, 100000)} {
		if _, e := p.send(m); e != api.ErrCut {
			t.Errorf("full, %d bytes: %d", len(m), e)
		}
	}
	for _, m := range [][]byte{{0}, make([]byte, 4), make([]byte, 65536)} {
		if _, e := p.send(m); e != api.ErrFull {
			t.Errorf("full, %d bytes: %d", len(m), e)
		}
	}
	if _, e := p.close(); e != api.ErrFull {
		t.Error("Close, full:", e)
	}
	p.probe()
	p.ack(0, 0)
	if _, e := p.close(); e != api.OK {
		t.Error("Close:", e)
	}
	for _, m := range [][]byte{nil, {}, {0}, make([]byte, 65536), make([]byte, 65537)} {
		if _, e := p.send(m); e != api.ErrClosed {
			t.Errorf("closed, %d bytes: %d", len(m), e)
		}
	}
	if _, e := p.close(); e != api.ErrClosed {
		t.Error("Close, closed:", e)
	}
	p.probe()
}

func TestSendOfTheLongest(t *testing.T) {
	p := made(t, with(func(c *api.Conf) { c.Mtu, c.Send = 16, 4096 }))
	if _, e := p.send(text(1, 65537)); e != api.ErrCut {
		t.Error("too long:", e)
	}
	if _, e := p.send(text(1, 65536)); e != api.OK || p.s.Line().Total != 4096 {
		t.Error("longest:", e)
	}
	if _, e := p.send([]byte{0}); e != api.ErrFull {
		t.Error("full:", e)
	}
}

// TestSendHasRoom: for so many pieces as Send says that are not acknowledged, those that wait and those that were sent.
func TestSendHasRoom(t *testing.T) {
	for _, room := range []int{1, 2, 3, 4, 10, 300, 4096} {
		c := with(func(c *api.Conf) { c.Mtu, c.Send = 1, room })
		for had := range min(room, 5) {
			for more := range 3 {
				p := loaded(t, c, had)
				want := api.OK
				if more > 0 {
					want = api.ErrFull
				}
				if _, e := p.send(text(1, room-had+more)); e != want {
					t.Errorf("%d of %d, and %d: %d", had, room, room-had+more, e)
				}
				p.agree("sent")
			}
		}
	}
}

func TestRoomIsCountedFromLow(t *testing.T) {
	p := loaded(t, with(func(c *api.Conf) { c.Send, c.First = 4, 3 }), 4)
	refused := func(what string, m []byte) {
		t.Helper()
		if _, e := p.send(m); e != api.ErrFull {
			t.Error(what, e)
		}
	}
	refused("full", []byte("a"))
	p.ack(0, 1)
	refused("low is not acknowledged", []byte("a"))
	p.ack(0, 0)
	refused("room for two", []byte("abcde"))
	if _, e := p.send([]byte("abcd")); e != api.OK {
		t.Error("room for two:", e)
	}
	refused("full again", []byte("a"))
	p.probe()
}

func TestRefusedChangesNothing(t *testing.T) {
	for _, sent := range []int{0, 1, 2, 3} {
		p := loaded(t, with(func(c *api.Conf) { c.Send = 3 }), sent)
		p.nack(0, 1)
		p.skip(1)
		want := p.s.Line()
		for _, m := range [][]byte{nil, make([]byte, 7), make([]byte, 65537)} {
			if out, e := p.send(m); e == api.OK || out != nil || p.s.Line() != want {
				t.Errorf("%d bytes: %v, %d", len(m), out, e)
			}
			p.probe()
		}
		if sent < 3 {
			continue
		}
		if out, e := p.close(); e != api.ErrFull || out != nil || p.s.Line() != want {
			t.Error("Close:", out, e)
		}
		p.probe()
	}
}

func TestCloseAddsFin(t *testing.T) {
	for messages := range 4 {
		p := loaded(t, conf(), messages)
		out, e := p.close()
		line := p.s.Line()
		if e != api.OK || !line.Closed || line.Total != messages+1 || line.Done {
			t.Errorf("Close behind %d: %d, %+v", messages, e, line)
		}
		if messages < 2 && (!are(out, messages) || out[0].Flags != api.First+api.Fin+api.Urgent || len(out[0].Payload) > 0) {
			t.Errorf("Close behind %d: %v", messages, out)
		}
		if messages >= 2 {
			if out != nil {
				t.Errorf("Close behind %d: %v", messages, out)
			}
			out = p.pull(9)
			if last := out[len(out)-1]; last.Seq != messages || last.Flags != api.Fin+api.Urgent || len(last.Payload) > 0 {
				t.Errorf("Fin behind %d: %v", messages, last)
			}
		}
		p.probe()
	}
}

func TestCloseSpendsWhatWasPulledBefore(t *testing.T) {
	p := loaded(t, conf(), 2)
	p.pull(3)
	if out, e := p.close(); e != api.OK || !are(out, 2) || p.s.Line().Spent != 1 {
		t.Error(out, e)
	}
}

// TestSendStartsTheTimer: so does Close.
func TestSendStartsTheTimer(t *testing.T) {
	for _, c := range []func(p *pair){func(p *pair) { p.send([]byte("a")) }, func(p *pair) { p.close() }} {
		for gone := range 5 {
			p := made(t, conf())
			p.skip(gone)
			c(p)
			if out := p.skip(1); out != nil {
				t.Error("the first tick:", out)
			}
			if out := p.skip(1); !are(out, 0) {
				t.Error("the second tick:", out)
			}
		}
	}
	p := loaded(t, conf(), 1) // one that runs does not start again
	p.skip(1)
	p.send([]byte("b"))
	if out := p.skip(1); !are(out, 0) {
		t.Error("a tick later:", out)
	}
	p.skip(3)
	p.close()
	if out := p.skip(1); !are(out, 0) {
		t.Error("four ticks later:", out)
	}
}

// TestClasses: Urgent is on all packets of class 1, and on none of class 0.
func TestClasses(t *testing.T) {
	for class := range 2 {
		p := madeFor(t, conf(), 3, 0, 1<<30, class)
		p.send(text(1, 5))
		p.close()
		p.nack(0, 0)
		p.pull(3)
		p.skip(3)
		if !are(p.out, 0, 1, 0, 2, 3, 0) {
			t.Error(seqs(p.out))
		}
		for _, x := range p.out {
			if x.Flags&api.Urgent != class*api.Urgent || x.Src != 3 || x.Dst != 0 || x.Conn != 1<<30 || x.Pull != 0 || x.Kind != api.Data {
				t.Error(x)
			}
		}
	}
}

func TestMemoryIsNotShared(t *testing.T) {
	p := made(t, conf())
	m := []byte("abcdef")
	out, _ := p.s.Send(m)
	p.m.sendMessage([]byte("abcdef"))
	if string(m) != "abcdef" {
		t.Error("changed:", string(m))
	}
	copy(m, "uvwxyz")
	for _, x := range out {
		copy(x.Payload, "!!")
		if more := append(x.Payload, "??"...); string(more[2:]) != "??" {
			t.Error(more)
		}
	}
	f := p.fork()
	again := p.s.Take(api.Packet{Kind: api.Nack, Seq: 0})
	again = append(again, p.s.Take(api.Packet{Kind: api.Pull, Pull: 2})...)
	if !are(again, 0, 2) || string(again[0].Payload) != "ab" || string(again[1].Payload) != "ef" {
		t.Error("sent again:", again)
	}
	for _, x := range again {
		copy(x.Payload, "??")
	}
	got := append(f.pull(1), f.skip(2)...)
	if !are(got, 2, 0) || string(got[0].Payload) != "ef" || string(got[1].Payload) != "ab" {
		t.Error("the fork:", got)
	}
	l := f.s.Active()
	l[0] = 99
	f.agree("its paths were changed")
	payload := []byte("xy")
	if f.take(api.Packet{Kind: api.Data, Flags: 24, Seq: 1, Payload: payload}); string(payload) != "xy" {
		t.Error("changed:", string(payload))
	}
}

// P17.5: Line, Done, Active, Fork.

func TestLine(t *testing.T) {
	p := loaded(t, conf(), 4)
	p.pull(3)
	p.nack(1, 0)
	p.skip(2)
	p.ack(0, 0)
	want := api.Line{Src: 2, Dst: 5, Conn: 9, Class: 1, Next: 4, Low: 1, Total: 4, Pulled: 3, Spent: 3, Timed: 1}
	if got := p.s.Line(); got != want {
		t.Errorf("%+v", got)
	}
	p.close()
	want.Closed, want.Total = true, 5
	if got := p.s.Line(); got != want {
		t.Errorf("%+v", got)
	}
	p.pull(4)
	for n := range 5 {
		p.ack(0, n)
	}
	want.Pulled, want.Spent, want.Next, want.Low, want.Done = 4, 4, 5, 5, true
	if got := p.s.Line(); got != want {
		t.Errorf("%+v", got)
	}
}

func TestDone(t *testing.T) {
	p := loaded(t, conf(), 1)
	not := func(what string) {
		t.Helper()
		if p.s.Done() || p.s.Line().Done {
			t.Error("done:", what)
		}
	}
	not("nothing is acknowledged")
	p.ack(0, 0)
	not("it is not closed")
	p.send([]byte("b"))
	p.close()
	not("two are not acknowledged")
	p.pull(1)
	p.ack(0, 2)
	not("one is not acknowledged")
	p.ack(0, 1)
	if !p.s.Done() || !p.s.Line().Done {
		t.Error("not done")
	}
	if out := p.skip(50); out != nil {
		t.Error("ticks:", out)
	}
	for n := range 4 { // what comes late changes nothing but what was pulled
		p.ack(0, n)
		p.nack(0, n)
		p.bounce(0, n)
		p.pull(7)
	}
	if !p.s.Done() || len(p.out) != 3 {
		t.Error("not done any more:", p.out)
	}
	p.probe()
	p = made(t, conf())
	p.close()
	not("Fin alone is not acknowledged")
	p.ack(0, 0)
	if !p.s.Done() {
		t.Error("not done")
	}
}

func TestForkGoesItsOwnWay(t *testing.T) {
	for messages := range 6 {
		p := loaded(t, conf(), messages)
		for range 4 {
			p.nack(2, 1)
		}
		p.bounce(1, 0)
		p.skip(1)
		f := p.fork()
		f.agree("fork")
		f.send(text(9, 4))
		f.pull(2)
		f.nack(2, 0)
		f.skip(5)
		f.ack(0, 0)
		p.agree("its fork went on")
		g := p.fork()
		p.close()
		p.pull(1)
		p.ack(1, 1)
		p.skip(3)
		f.agree("the other went on")
		f.probe()
		g.probe()
		p.probe()
		f.fork().probe()
	}
}

// notMade are Senders that neither New nor Fork made.
func notMade() map[string]*sender.Sender {
	other, _ := sender.New(conf(), 2, 5, 9, 1) // a Sender elsewhere makes nothing of these
	other.Send([]byte("abcdef"))
	other.Close()
	other.Take(api.Packet{Kind: api.Pull, Pull: 9})
	var zero sender.Sender
	var none *sender.Sender
	refused, _ := sender.New(conf(), 2, 2, 9, 1)
	invalid, _ := sender.New(api.Conf{}, 2, 5, 9, 1)
	return map[string]*sender.Sender{
		"nil": nil, "zero": {}, "new": new(sender.Sender), "refused": refused, "invalid": invalid, "its fork": zero.Fork(), "fork of nil": none.Fork(),
	}
}

func TestNotMade(t *testing.T) {
	packets := []api.Packet{{}, {Kind: api.Ack}, {Kind: api.Nack}, {Kind: api.Data, Flags: 24}, {Kind: api.Pull, Pull: 9}}
	for what, s := range notMade() {
		for range 2 { // nor does any call make it one
			for _, m := range [][]byte{nil, []byte("a"), make([]byte, 65537)} {
				if out, e := s.Send(m); out != nil || e != api.ErrNil {
					t.Errorf("%s: Send %v, %d", what, out, e)
				}
			}
			if out, e := s.Close(); out != nil || e != api.ErrNil {
				t.Errorf("%s: Close %v, %d", what, out, e)
			}
			for _, x := range packets {
				if out := s.Take(x); out != nil {
					t.Errorf("%s: Take %v", what, out)
				}
			}
			if out := s.Tick(); out != nil {
				t.Errorf("%s: Tick %v", what, out)
			}
			if s.Line() != (api.Line{}) || s.Done() || s.Active() != nil || s.Fork() != nil {
				t.Errorf("%s: %+v, %v, %v, %v", what, s.Line(), s.Done(), s.Active(), s.Fork())
			}
		}
	}
}

// TestACopiedValueAnswers: it need not be one of its own, but it has to answer.
func TestACopiedValueAnswers(t *testing.T) {
	p := loaded(t, conf(), 3)
	other := *p.s
	other.Send([]byte("x"))
	other.Take(api.Packet{Kind: api.Pull, Pull: 2})
	other.Tick()
	other.Close()
	other.Fork()
	if line := other.Line(); line.Total != 5 || !line.Closed || line.Done != other.Done() || len(other.Active()) != 3 {
		t.Errorf("%+v", line)
	}
}

// any call.

// confOf are settings that are valid, and that others do not have.
func confOf(source *draws.Source) api.Conf {
	c := api.Conf{Paths: 1 + source.Below(8), Mtu: 1 + source.Below(5), Window: 1 + source.Below(12), Seed: source.Below(1000)}
	c.First = 1 + source.Below(c.Window)
	c.Rto = 1 + source.Below(5)
	c.Cap = c.Rto + source.Below(20)
	c.Rest = source.Below(9)
	c.Send = 1 + source.Below(30)
	return c
}

// call does one of all calls to a pair, and answers what goes on.
func (p *pair) call(kind, n int) *pair {
	p.t.Helper()
	path := n%10 - 1
	seq := p.m.low() + n/10%14 - 2
	switch kind % 12 {
	case 0, 1:
		p.send(text(uint64(n), n%9))
	case 2, 3:
		p.ack(path, seq)
	case 4:
		p.nack(path, seq)
	case 5:
		p.bounce(path, seq)
	case 6, 7:
		p.pull(p.m.pulled + n%5 - 1)
	case 8:
		p.take(api.Packet{Kind: api.Kind(n%7 - 1), Flags: n%130 - 65, Path: path, Seq: seq, Pull: p.m.pulled, Payload: text(1, n%3)})
	case 9:
		if n%16 == 0 {
			p.close()
		}
		return p.fork()
	case 10:
		left := p.fork()
		p.skip(n % 5)
		left.agree("the one that was forked")
	default:
		p.skip(n % 30)
	}
	return p
}

func TestAnyCalls(t *testing.T) {
	for seed := range uint64(300) {
		source := draws.New(seed)
		p := made(t, confOf(source))
		for range 120 {
			p = p.call(source.Below(12), source.Below(256))
		}
		p.probe()
	}
}

func FuzzSenderAgrees(f *testing.F) {
	f.Add(uint64(0), []byte{0, 8, 6, 3, 2, 21, 4, 32, 11, 9, 9, 16, 5, 43, 7, 4})
	f.Add(uint64(1), []byte{0, 8, 1, 7, 4, 1, 4, 1, 4, 1, 4, 1, 4, 1, 4, 1, 6, 4, 11, 29, 10, 3})
	f.Add(uint64(7), []byte{9, 16, 2, 21, 11, 5, 8, 99, 0, 1})
	f.Add(uint64(12), []byte{0, 7, 0, 8, 5, 2, 5, 2, 5, 2, 6, 4, 2, 20, 8, 131, 9, 32, 11, 255})
	f.Fuzz(func(t *testing.T, seed uint64, calls []byte) {
		p := made(t, confOf(draws.New(seed)))
		for ; len(calls) > 1; calls = calls[2:] {
			p = p.call(int(calls[0]), int(calls[1]))
		}
		p.probe()
	})
}
