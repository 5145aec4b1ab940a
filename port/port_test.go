package port_test

import (
	"bytes"
	"math"
	"slices"
	"testing"

	"nozzle/api"
	"nozzle/draws"
	"nozzle/port"
	"nozzle/wire"
)

// notSizes are numbers that neither a room nor a weight may be.
var notSizes = []int{0, -1, -2, -1024, 1025, 1026, 2048, 1 << 32, 1<<32 + 1, -1 << 32, math.MaxInt, math.MinInt}

// notFates are numbers that no fate has.
var notFates = []api.Fate{api.NoFate, -1, -2, 5, 6, 257, 1<<32 + 1, math.MaxInt, math.MinInt}

var allFates = []api.Fate{api.Deliver, api.Drop, api.Delay, api.Double}

// notMade are ports that neither New nor Fork made.
func notMade() map[string]*port.Port {
	_, _ = port.New(2, 2, 2) // a port elsewhere makes nothing of these
	var none *port.Port
	var zero port.Port
	refused, _ := port.New(0, 1, 1)
	return map[string]*port.Port{"nil": nil, "zero": {}, "new": new(port.Port), "refused": refused, "its fork": zero.Fork(), "fork of nil": none.Fork()}
}

// data are packets of data with these flags; the payload is "abc", unless the flags leave none.
func data(flags, seq int) api.Packet {
	x := api.Packet{Kind: api.Data, Flags: flags, Path: 2, Src: 3, Dst: 1, Conn: 4, Seq: seq}
	if flags&(api.Fin|api.Trimmed) == 0 {
		x.Payload = []byte("abc")
	}
	return x
}

// sealed is data with a payload of n bytes.
func sealed(n int) api.Packet {
	x := data(api.End, 6)
	x.Payload = bytes.Repeat([]byte{7}, n)
	return x
}

func ack(seq int) api.Packet {
	return api.Packet{Kind: api.Ack, Path: 2, Src: 3, Dst: 1, Conn: 4, Seq: seq}
}

func nack(seq int) api.Packet {
	return api.Packet{Kind: api.Nack, Path: 2, Src: 3, Dst: 1, Conn: 4, Seq: seq}
}

func pull(n int) api.Packet {
	return api.Packet{Kind: api.Pull, Path: 2, Src: 3, Dst: 1, Conn: 4, Pull: n}
}

// changed is a packet with a change.
func changed(x api.Packet, change func(*api.Packet)) api.Packet {
	change(&x)
	return x
}

// valid are packets of all kinds and flags; those with a payload are heavy.
func valid() []api.Packet {
	out := []api.Packet{ack(1), nack(2), pull(3), sealed(1), sealed(1024)}
	for flags := range 64 {
		if x := data(flags, flags); wire.Check(x) == api.OK {
			out = append(out, x)
		}
	}
	return out
}

// invalid are packets that may not be; with one change less, some would be heavy and some not.
func invalid() []api.Packet {
	return []api.Packet{
		{}, sealed(0), sealed(1025), sealed(1 << 20),
		changed(data(0, 1), func(x *api.Packet) { x.Kind = api.NoKind }),
		changed(data(0, 1), func(x *api.Packet) { x.Kind = 5 }),
		changed(data(0, 1), func(x *api.Packet) { x.Kind = -1 }),
		changed(data(0, 1), func(x *api.Packet) { x.Src = x.Dst }),
		changed(data(0, 1), func(x *api.Packet) { x.Src = 8 }),
		changed(data(0, 1), func(x *api.Packet) { x.Dst = -1 }),
		changed(data(0, 1), func(x *api.Packet) { x.Path = 8 }),
		changed(data(0, 1), func(x *api.Packet) { x.Conn = 0 }),
		changed(data(0, 1), func(x *api.Packet) { x.Conn = 1<<30 + 1 }),
		changed(data(0, 1), func(x *api.Packet) { x.Seq = -1 }),
		changed(data(0, 1), func(x *api.Packet) { x.Seq = 1<<60 + 1 }),
		changed(data(0, 1), func(x *api.Packet) { x.Pull = 1 }),
		changed(data(0, 1), func(x *api.Packet) { x.Flags = -1 }),
		changed(data(0, 1), func(x *api.Packet) { x.Flags = 64 }),
		changed(data(0, 1), func(x *api.Packet) { x.Flags = math.MinInt }),
		changed(data(0, 1), func(x *api.Packet) { x.Flags = api.Fin }),
		changed(data(0, 1), func(x *api.Packet) { x.Flags = api.Trimmed }),
		changed(data(0, 1), func(x *api.Packet) { x.Flags = api.Bounced }),
		data(api.Fin+api.End, 1), changed(data(0, 1), func(x *api.Packet) { x.Payload = nil }),
		changed(data(api.Trimmed, 1), func(x *api.Packet) { x.Payload = []byte("a") }),
		changed(data(api.Trimmed, 1), func(x *api.Packet) { x.Conn = -1 }),
		changed(ack(1), func(x *api.Packet) { x.Payload = []byte("a") }),
		changed(ack(1), func(x *api.Packet) { x.Flags = api.First }),
		changed(nack(1), func(x *api.Packet) { x.Src = -1 }),
		changed(pull(1), func(x *api.Packet) { x.Seq = 1 }),
	}
}

// model does slowly, as the document says it, what a port does.
type model struct {
	lowRoom, highRoom, weight int
	low, high                 []api.Packet
	run                       int
	counts                    [5]int
}

func (m *model) put(x api.Packet) (port.Verdict, api.Packet) {
	v, y := m.judge(x)
	m.counts[v]++
	return v, y
}

func (m *model) judge(x api.Packet) (port.Verdict, api.Packet) {
	if wire.Check(x) != api.OK {
		return port.Lost, api.Packet{}
	}
	fullHigh := len(m.high) == m.highRoom
	heavy := x.Kind == api.Data && len(x.Payload) > 0
	if heavy && len(m.low) < m.lowRoom {
		m.low = append(m.low, x)
		return port.Kept, x
	}
	if heavy && !fullHigh {
		x.Payload, x.Flags = nil, x.Flags|api.Trimmed
		m.high = append(m.high, x)
		return port.Cut, x
	}
	if !fullHigh {
		m.high = append(m.high, x)
		return port.Kept, x
	}
	if x.Kind == api.Data && x.Flags&api.Bounced == 0 {
		x.Payload, x.Flags = nil, x.Flags|api.Trimmed|api.Bounced
		x.Src, x.Dst = x.Dst, x.Src
		return port.Back, x
	}
	return port.Lost, api.Packet{}
}

// servesHigh tells whether the next packet is of the high queue.
func (m *model) servesHigh() bool {
	return len(m.high) != 0 && (len(m.low) == 0 || m.run < m.weight)
}

func (m *model) peek() (api.Packet, bool) {
	switch {
	case m.servesHigh():
		return m.high[0], true
	case len(m.low) != 0:
		return m.low[0], true
	}
	return api.Packet{}, false
}

func (m *model) serve(f api.Fate) ([]api.Packet, api.Errno) {
	if f != api.Deliver && f != api.Drop && f != api.Delay && f != api.Double {
		return nil, api.ErrPort
	}
	x, ok := m.peek()
	if !ok {
		return nil, api.ErrNone
	}
	l := &m.low
	run := 0
	if m.servesHigh() {
		l = &m.high
		if len(m.low) != 0 {
			run = m.run + 1
		}
	}
	m.run = run
	*l = slices.Clone((*l)[1:])
	if f == api.Delay || f == api.Double {
		*l = append(*l, x)
	}
	if f == api.Deliver || f == api.Double {
		m.counts[0]++
		return []api.Packet{x}, api.OK
	}
	return nil, api.OK
}

func (m *model) fork() *model {
	other := *m
	other.low, other.high = slices.Clone(m.low), slices.Clone(m.high)
	return &other
}

// made is a port, and the model of it.
func made(t *testing.T, low, high, weight int) (*port.Port, *model) {
	t.Helper()
	p, e := port.New(low, high, weight)
	if p == nil || e != api.OK {
		t.Fatalf("New(%d, %d, %d): %v, %d", low, high, weight, p, e)
	}
	return p, &model{lowRoom: low, highRoom: high, weight: weight}
}

func allSame(a, b []api.Packet) bool { return slices.EqualFunc(a, b, wire.Same) }

// agree asks everything that a port tells without changing it.
func agree(t *testing.T, what string, p *port.Port, m *model) {
	t.Helper()
	if got := p.Low(); !allSame(got, m.low) {
		t.Errorf("%s: Low %v, not %v", what, got, m.low)
	}
	if got := p.High(); !allSame(got, m.high) {
		t.Errorf("%s: High %v, not %v", what, got, m.high)
	}
	if low, high := p.Lens(); low != len(m.low) || high != len(m.high) || low > m.lowRoom || high > m.highRoom {
		t.Errorf("%s: Lens %d, %d, not %d, %d", what, low, high, len(m.low), len(m.high))
	}
	if got := p.Counts(); got != m.counts {
		t.Errorf("%s: Counts %v, not %v", what, got, m.counts)
	}
	got, ok := p.Peek()
	if want, has := m.peek(); ok != has || !wire.Same(got, want) {
		t.Errorf("%s: Peek %v, %v, not %v, %v", what, got, ok, want, has)
	}
}

// put puts packets into a port and its model.
func put(t *testing.T, p *port.Port, m *model, l ...api.Packet) {
	t.Helper()
	for _, x := range l {
		v, y := p.Put(x)
		if w, want := m.put(x); v != w || !wire.Same(y, want) {
			t.Errorf("Put(%v): %d, %v, not %d, %v", x, v, y, w, want)
		}
	}
}

// serve lets a port and its model serve one packet.
func serve(t *testing.T, p *port.Port, m *model, f api.Fate) []api.Packet {
	t.Helper()
	l, e := p.Serve(f)
	if want, of := m.serve(f); e != of || !allSame(l, want) {
		t.Errorf("Serve(%d): %v, %d, not %v, %d", f, l, e, want, of)
	}
	return l
}

// seqs are the numbers of packets.
func seqs(l []api.Packet) []int {
	var out []int
	for _, x := range l {
		out = append(out, x.Seq)
	}
	return out
}

// heavies are n packets of data with a payload, numbered from first on; acks likewise.
func heavies(first, n int) []api.Packet {
	var out []api.Packet
	for i := range n {
		out = append(out, data(0, first+i))
	}
	return out
}

func acks(first, n int) []api.Packet {
	var out []api.Packet
	for i := range n {
		out = append(out, ack(first+i))
	}
	return out
}

// P8.1: New.

func TestNewHasNothing(t *testing.T) {
	for _, c := range [][3]int{{1, 1, 1}, {2, 3, 4}, {1024, 1, 1}, {1, 1024, 1}, {1, 1, 1024}, {1023, 1023, 1023}, {1024, 1024, 1024}} {
		p, m := made(t, c[0], c[1], c[2])
		agree(t, "new", p, m)
		if low, high := p.Lens(); low != 0 || high != 0 || p.Counts() != [5]int{} {
			t.Error(c, low, high, p.Counts())
		}
	}
}

func TestNewRefuses(t *testing.T) {
	for _, n := range notSizes {
		for _, c := range [][3]int{{n, 1, 1}, {1, n, 1}, {1, 1, n}, {n, 1024, 1024}, {1024, n, 1024}, {1024, 1024, n}, {n, n, n}} {
			if p, e := port.New(c[0], c[1], c[2]); p != nil || e != api.ErrPort {
				t.Errorf("New%v: %v, %d", c, p, e)
			}
		}
	}
}

func TestNewHasTheRoomsOfItsOrder(t *testing.T) {
	p, m := made(t, 1024, 3, 2)
	put(t, p, m, heavies(0, 1024)...)
	put(t, p, m, acks(0, 3)...)
	agree(t, "full", p, m)
	if p.Counts() != [5]int{port.Kept: 1027} {
		t.Error(p.Counts())
	}
	put(t, p, m, data(0, 5), ack(5))
	agree(t, "one beyond", p, m)
	if p.Counts() != [5]int{port.Kept: 1027, port.Back: 1, port.Lost: 1} {
		t.Error(p.Counts())
	}
}

func TestNewBeginsWithTheRunZero(t *testing.T) {
	for weight := 1; weight < 6; weight++ {
		p, m := made(t, 2, 9, weight)
		put(t, p, m, heavies(100, 2)...)
		put(t, p, m, acks(0, 9)...)
		for i := range weight {
			if l := serve(t, p, m, api.Deliver); !slices.Equal(seqs(l), []int{i}) {
				t.Errorf("weight %d, %d: %v", weight, i, l)
			}
		}
		if l := serve(t, p, m, api.Deliver); !slices.Equal(seqs(l), []int{100}) {
			t.Errorf("weight %d: %v", weight, l)
		}
	}
}

// P8.1: Put.

func TestExampleOfTheChapter(t *testing.T) {
	p, _ := made(t, 1, 5, 1)
	if v, x := p.Put(data(api.First, 1)); v != port.Kept || !wire.Same(x, data(api.First, 1)) {
		t.Error(v, x)
	}
	if v, x := p.Put(data(api.First, 2)); v != port.Cut || !wire.Same(x, data(api.First+api.Trimmed, 2)) {
		t.Error(v, x)
	}
	if !allSame(p.Low(), []api.Packet{data(api.First, 1)}) || !allSame(p.High(), []api.Packet{data(api.First+api.Trimmed, 2)}) {
		t.Error(p.Low(), p.High())
	}
}

// TestPutOfEachPacket puts each packet into ports of which each queue is empty, or full.
func TestPutOfEachPacket(t *testing.T) {
	for _, x := range slices.Concat(valid(), invalid()) {
		for _, c := range []struct{ low, high int }{{0, 0}, {0, 1}, {1, 0}, {1, 1}, {2, 2}} {
			p, m := made(t, 2, 2, 1)
			put(t, p, m, heavies(70, c.low)...)
			put(t, p, m, acks(80, c.high)...)
			put(t, p, m, x, x, x, x)
			agree(t, "put", p, m)
		}
	}
}

func TestPutTellsByWhatIsFull(t *testing.T) {
	for _, c := range []struct {
		x         api.Packet
		low, high int
		want      port.Verdict
		y         api.Packet
	}{
		{data(0, 5), 0, 0, port.Kept, data(0, 5)},
		{data(0, 5), 0, 1, port.Kept, data(0, 5)},
		{data(0, 5), 1, 0, port.Cut, data(api.Trimmed, 5)},
		{data(0, 5), 1, 1, port.Back, sentBack(data(api.Trimmed, 5))},
		{data(api.First+api.End+api.Urgent, 5), 1, 0, port.Cut, data(api.First+api.End+api.Urgent+api.Trimmed, 5)},
		{data(api.First+api.End+api.Urgent, 5), 1, 1, port.Back, sentBack(data(api.First+api.End+api.Urgent+api.Trimmed, 5))},
		// Fin has no payload: it is a header, trimmed only where it is returned.
		{data(api.Fin, 5), 0, 0, port.Kept, data(api.Fin, 5)},
		{data(api.Fin, 5), 1, 0, port.Kept, data(api.Fin, 5)},
		{data(api.Fin, 5), 0, 1, port.Back, sentBack(data(api.Fin+api.Trimmed, 5))},
		{data(api.Fin+api.Trimmed, 5), 0, 1, port.Back, sentBack(data(api.Fin+api.Trimmed, 5))},
		{data(api.Trimmed, 5), 1, 0, port.Kept, data(api.Trimmed, 5)},
		{data(api.Trimmed, 5), 0, 1, port.Back, sentBack(data(api.Trimmed, 5))},
		// What was bounced once goes nowhere else.
		{sentBack(data(api.Trimmed, 5)), 1, 0, port.Kept, sentBack(data(api.Trimmed, 5))},
		{sentBack(data(api.Trimmed, 5)), 0, 1, port.Lost, api.Packet{}},
		{sentBack(data(api.Fin+api.Trimmed, 5)), 0, 1, port.Lost, api.Packet{}},
		{ack(5), 1, 0, port.Kept, ack(5)},
		{ack(5), 0, 1, port.Lost, api.Packet{}},
		{nack(5), 1, 0, port.Kept, nack(5)},
		{nack(5), 0, 1, port.Lost, api.Packet{}},
		{pull(5), 1, 0, port.Kept, pull(5)},
		{pull(5), 0, 1, port.Lost, api.Packet{}},
	} {
		p, m := made(t, 1, 1, 1)
		put(t, p, m, heavies(70, c.low)...)
		put(t, p, m, acks(80, c.high)...)
		before := p.Counts()
		v, y := p.Put(c.x)
		if v != c.want || !wire.Same(y, c.y) {
			t.Errorf("%v at %d, %d: %d, %v", c.x, c.low, c.high, v, y)
		}
		before[c.want]++
		if p.Counts() != before {
			t.Errorf("%v at %d, %d: Counts %v, not %v", c.x, c.low, c.high, p.Counts(), before)
		}
	}
}

// sentBack is a trimmed header as it goes back.
func sentBack(x api.Packet) api.Packet {
	x.Src, x.Dst = x.Dst, x.Src
	x.Flags += api.Bounced
	return x
}

func TestPutLosesWhatIsNoPacket(t *testing.T) {
	for _, x := range invalid() {
		p, m := made(t, 3, 3, 2)
		put(t, p, m, data(0, 1), ack(2))
		m.counts[port.Lost]++
		if v, y := p.Put(x); v != port.Lost || !wire.Same(y, api.Packet{}) {
			t.Errorf("%v: %d, %v", x.Kind, v, y)
		}
		agree(t, "no packet", p, m)
	}
}

func TestPutAtTheGreatestRooms(t *testing.T) {
	p, m := made(t, 1024, 1024, 1024)
	put(t, p, m, heavies(0, 2049)...)
	agree(t, "full", p, m)
	if p.Counts() != [5]int{port.Kept: 1024, port.Cut: 1024, port.Back: 1} {
		t.Error(p.Counts())
	}
	for range 2048 {
		serve(t, p, m, api.Deliver)
	}
	agree(t, "empty", p, m)
	if p.Counts()[0] != 2048 {
		t.Error(p.Counts())
	}
}

func TestPutDoesNotLookAtWhereAPacketGoes(t *testing.T) {
	p, m := made(t, 9, 9, 1)
	for i := range 8 {
		put(t, p, m, changed(data(0, i), func(x *api.Packet) { x.Path, x.Src, x.Dst, x.Conn = 7-i, i, (i+1)%8, 1+i }))
		put(t, p, m, changed(pull(i), func(x *api.Packet) { x.Path, x.Src, x.Dst, x.Conn = i, (i+3)%8, i, 1<<30-i }))
	}
	agree(t, "of anybody", p, m)
	if p.Counts() != [5]int{port.Kept: 16} {
		t.Error(p.Counts())
	}
}

func TestPutNeitherKeepsNorChangesItsArgument(t *testing.T) {
	for _, full := range []bool{false, true} {
		p, m := made(t, 1, 1, 1)
		if full {
			put(t, p, m, data(0, 8), ack(9))
		}
		b := []byte("abcdef")
		x := data(0, 1)
		x.Payload = b[:3]
		for range 3 { // Kept, Cut, Back; or Back each time
			p.Put(x)
			m.put(data(0, 1))
		}
		if string(b) != "abcdef" || x.Flags != 0 || x.Src != 3 {
			t.Error("the argument was changed:", b, x)
		}
		clear(b)
		agree(t, "the argument was changed", p, m)
	}
}

// P8.2: Serve.

func TestServeWithEachFate(t *testing.T) {
	for _, c := range []struct {
		f         api.Fate
		out       []int
		low, high []int
		served    int
	}{
		{api.Deliver, []int{5}, []int{1, 2}, []int{6}, 1},
		{api.Drop, nil, []int{1, 2}, []int{6}, 0},
		{api.Delay, nil, []int{1, 2}, []int{6, 5}, 0},
		{api.Double, []int{5}, []int{1, 2}, []int{6, 5}, 1},
	} {
		p, m := made(t, 2, 2, 1)
		put(t, p, m, data(0, 1), data(0, 2), ack(5), ack(6)) // both queues are full: there is room for what goes to the end
		l := serve(t, p, m, c.f)
		if !slices.Equal(seqs(l), c.out) || !slices.Equal(seqs(p.Low()), c.low) || !slices.Equal(seqs(p.High()), c.high) || p.Counts()[0] != c.served {
			t.Errorf("fate %d: %v, low %v, high %v, %v", c.f, l, p.Low(), p.High(), p.Counts())
		}
		agree(t, "served", p, m)
	}
}

func TestServeOfTheLowQueueWithEachFate(t *testing.T) {
	for _, c := range []struct {
		f        api.Fate
		out, low []int
	}{
		{api.Deliver, []int{1}, []int{2, 3}},
		{api.Drop, nil, []int{2, 3}},
		{api.Delay, nil, []int{2, 3, 1}},
		{api.Double, []int{1}, []int{2, 3, 1}},
	} {
		p, m := made(t, 3, 1, 1)
		put(t, p, m, heavies(1, 3)...)
		l := serve(t, p, m, c.f)
		if !slices.Equal(seqs(l), c.out) || !slices.Equal(seqs(p.Low()), c.low) || len(p.High()) != 0 {
			t.Errorf("fate %d: %v, low %v, high %v", c.f, l, p.Low(), p.High())
		}
		for _, x := range slices.Concat(l, p.Low()) {
			if string(x.Payload) != "abc" || x.Flags != 0 {
				t.Errorf("fate %d: %v", c.f, x)
			}
		}
		agree(t, "served", p, m)
	}
}

func TestServeOfTheOnlyPacket(t *testing.T) {
	for _, x := range []api.Packet{data(api.First, 3), data(api.Fin, 3), pull(3)} {
		for _, f := range allFates {
			p, m := made(t, 1, 1, 1)
			put(t, p, m, x)
			for range 3 {
				serve(t, p, m, f)
				agree(t, "served", p, m)
			}
			low, high := p.Lens()
			if stays := f == api.Delay || f == api.Double; stays != (low+high == 1) {
				t.Errorf("fate %d: Lens %d, %d", f, low, high)
			}
		}
	}
}

func TestServeOfNothing(t *testing.T) {
	p, m := made(t, 2, 2, 2)
	for round := range 2 {
		for _, f := range allFates {
			if l, e := p.Serve(f); len(l) != 0 || e != api.ErrNone {
				t.Errorf("%d, fate %d: %v, %d", round, f, l, e)
			}
			agree(t, "nothing", p, m)
		}
		put(t, p, m, data(0, 1), ack(2))
		serve(t, p, m, api.Drop)
		serve(t, p, m, api.Drop)
	}
}

func TestServeWithoutAFate(t *testing.T) {
	for _, f := range notFates {
		p, m := made(t, 2, 2, 2)
		if l, e := p.Serve(f); len(l) != 0 || e != api.ErrPort { // ahead of ErrNone
			t.Errorf("empty, fate %d: %v, %d", f, l, e)
		}
		put(t, p, m, data(0, 1), ack(2), ack(3))
		for range 3 { // nor does the run go on
			if l, e := p.Serve(f); len(l) != 0 || e != api.ErrPort {
				t.Errorf("fate %d: %v, %d", f, l, e)
			}
			agree(t, "no fate", p, m)
		}
		for _, want := range []int{2, 3, 1} {
			if l := serve(t, p, m, api.Deliver); !slices.Equal(seqs(l), []int{want}) {
				t.Errorf("fate %d: %v, not %d", f, l, want)
			}
		}
	}
}

func TestErrNilBeforeTheOthers(t *testing.T) {
	for what, p := range notMade() {
		for _, f := range slices.Concat(allFates, notFates) {
			if l, e := p.Serve(f); len(l) != 0 || e != api.ErrNil {
				t.Errorf("%s, fate %d: %v, %d", what, f, l, e)
			}
		}
	}
}

// TestTheRunGoesOnWithEachFate: also what is dropped, delayed or doubled was served.
func TestTheRunGoesOnWithEachFate(t *testing.T) {
	for _, f := range allFates {
		for weight := 1; weight < 5; weight++ {
			p, m := made(t, 20, 60, weight)
			put(t, p, m, heavies(100, 20)...)
			put(t, p, m, acks(0, 60)...)
			for i := range 30 {
				x, ok := p.Peek()
				if low := i%(weight+1) == weight; !ok || low != (x.Kind == api.Data) {
					t.Errorf("fate %d, weight %d, %d: %v", f, weight, i, x)
				}
				serve(t, p, m, f)
			}
			agree(t, "served", p, m)
		}
	}
}

func TestTheRunIsZeroWhileTheLowQueueIsEmpty(t *testing.T) {
	p, m := made(t, 3, 9, 2)
	put(t, p, m, acks(0, 9)...)
	for range 5 {
		serve(t, p, m, api.Deliver) // none of these counts: the low queue is empty
	}
	put(t, p, m, heavies(100, 2)...)
	for _, want := range []int{5, 6, 100, 7, 8, 101} {
		if l := serve(t, p, m, api.Deliver); !slices.Equal(seqs(l), []int{want}) {
			t.Errorf("%v, not %d", l, want)
		}
	}
}

func TestTheRunIsZeroAfterALowPacket(t *testing.T) {
	p, m := made(t, 3, 9, 2)
	put(t, p, m, data(0, 100), data(0, 101), data(0, 102), ack(1))
	for _, want := range []int{1, 100} { // the run is 1, then 0: the high queue is empty
		if l := serve(t, p, m, api.Deliver); !slices.Equal(seqs(l), []int{want}) {
			t.Errorf("%v, not %d", l, want)
		}
	}
	put(t, p, m, acks(2, 3)...)
	for _, want := range []int{2, 3, 101, 4, 102} {
		if l := serve(t, p, m, api.Deliver); !slices.Equal(seqs(l), []int{want}) {
			t.Errorf("%v, not %d", l, want)
		}
	}
}

func TestTheRunLastsWhileTheHighQueueIsEmpty(t *testing.T) {
	p, m := made(t, 3, 3, 2)
	put(t, p, m, data(0, 100), ack(1))
	serve(t, p, m, api.Deliver) // the run is 1, and nothing else is served
	put(t, p, m, acks(2, 2)...)
	for _, want := range []int{2, 100, 3} {
		if l := serve(t, p, m, api.Deliver); !slices.Equal(seqs(l), []int{want}) {
			t.Errorf("%v, not %d", l, want)
		}
	}
}

// P8.3: the others.

func TestPeekTellsWhatIsServed(t *testing.T) {
	p, m := made(t, 5, 5, 2)
	put(t, p, m, heavies(100, 7)...) // two are cut
	put(t, p, m, acks(1, 3)...)
	for {
		x, ok := p.Peek()
		again, _ := p.Peek()
		if !wire.Same(x, again) {
			t.Error("Peek changed something:", x, again)
		}
		if !ok {
			break
		}
		if l := serve(t, p, m, api.Deliver); !allSame(l, []api.Packet{x}) {
			t.Errorf("Peek %v, Serve %v", x, l)
		}
	}
	if x, ok := p.Peek(); ok || !wire.Same(x, api.Packet{}) {
		t.Error(x, ok)
	}
}

func TestCountsAreEachTheirOwn(t *testing.T) {
	p, m := made(t, 7, 5, 3)
	put(t, p, m, heavies(0, 9)...) // 7 kept, 2 cut
	put(t, p, m, acks(0, 8)...)    // 3 kept, 5 lost
	put(t, p, m, heavies(9, 4)...) // 4 back
	for range 6 {
		serve(t, p, m, api.Double)
	}
	serve(t, p, m, api.Drop)
	serve(t, p, m, api.Delay)
	if p.Counts() != [5]int{6, 10, 2, 4, 5} {
		t.Error(p.Counts())
	}
	agree(t, "counted", p, m)
}

// spoil changes all that an answer refers to.
func spoil(l []api.Packet) {
	for i, x := range l {
		clear(x.Payload)
		l[i] = api.Packet{Kind: api.Pull}
	}
	_ = append(l, api.Packet{Kind: api.Nack})
}

func TestAnswersAreNewMemory(t *testing.T) {
	p, m := made(t, 4, 4, 2)
	b := data(0, 0)
	for range 3 {
		_, y := p.Put(b)
		m.put(data(0, 0))
		clear(y.Payload)
		if string(b.Payload) != "abc" {
			t.Error("Put answered its argument's payload")
		}
	}
	agree(t, "what Put answered was changed", p, m)
	put(t, p, m, heavies(4, 2)...)
	put(t, p, m, ack(8))
	x, _ := p.Peek()
	clear(x.Payload)
	spoil(p.Low())
	spoil(p.High())
	agree(t, "what the others answered was changed", p, m)
	for _, f := range []api.Fate{api.Double, api.Double, api.Double, api.Deliver} {
		l, _ := p.Serve(f)
		m.serve(f)
		spoil(l)
		agree(t, "what Serve answered was changed", p, m)
	}
	low := p.Low()
	want := seqs(low)
	p.Serve(api.Deliver)
	p.Serve(api.Delay)
	put(t, p, m, data(0, 9))
	if !slices.Equal(seqs(low), want) || string(low[0].Payload) != "abc" {
		t.Error("what Low answered changes with the port:", low)
	}
}

// TestPeekAnswersNewMemory: of a heavy packet, which a port served from its low queue.
func TestPeekAnswersNewMemory(t *testing.T) {
	p, m := made(t, 2, 2, 1)
	put(t, p, m, data(0, 1))
	x, _ := p.Peek()
	clear(x.Payload)
	agree(t, "what Peek answered was changed", p, m)
}

func TestForkGoesItsOwnWay(t *testing.T) {
	p, m := made(t, 3, 3, 2)
	put(t, p, m, heavies(0, 5)...)
	put(t, p, m, acks(10, 3)...)
	serve(t, p, m, api.Double) // the run is 1
	fork, of := p.Fork(), m.fork()
	agree(t, "fork", fork, of)
	serve(t, p, m, api.Deliver)
	serve(t, p, m, api.Deliver)
	put(t, p, m, ack(20), data(0, 21))
	agree(t, "the port", p, m)
	agree(t, "the fork, after the port went on", fork, of)
	second, ofSecond := fork.Fork(), of.fork()
	for _, f := range []api.Fate{api.Drop, api.Delay, api.Double, api.Deliver, api.Deliver} {
		serve(t, fork, of, f)
		put(t, fork, of, data(api.End, 30), pull(31))
		agree(t, "the fork", fork, of)
		agree(t, "the port, after the fork went on", p, m)
		agree(t, "the fork of the fork", second, ofSecond)
	}
	for range 7 {
		serve(t, second, ofSecond, api.Deliver)
		agree(t, "the fork of the fork", second, ofSecond)
	}
}

func TestForkKeepsRoomsWeightAndRun(t *testing.T) {
	for run := range 4 {
		p, m := made(t, 2, 6, 3)
		put(t, p, m, heavies(0, 2)...)
		put(t, p, m, acks(10, 6)...)
		for range run {
			serve(t, p, m, api.Delay)
		}
		fork, of := p.Fork(), m.fork()
		put(t, fork, of, data(0, 8), ack(9)) // full
		for range 8 {
			serve(t, fork, of, api.Deliver)
			agree(t, "fork", fork, of)
		}
		put(t, fork, of, heavies(20, 9)...)
		agree(t, "filled again", fork, of)
		agree(t, "the port", p, m)
	}
}

func TestForkSharesNoMemory(t *testing.T) {
	p, m := made(t, 2, 2, 2)
	put(t, p, m, data(0, 1))
	fork, of := p.Fork(), m.fork()
	l, _ := p.Serve(api.Deliver)
	spoil(l)
	agree(t, "what the port served was changed", fork, of)
	second, ofSecond := fork.Fork(), of.fork()
	l, _ = second.Serve(api.Deliver)
	ofSecond.serve(api.Deliver)
	spoil(l)
	agree(t, "what the fork of the fork served was changed", fork, of)
	agree(t, "the fork of the fork", second, ofSecond)
}

func TestPortsGoTheirOwnWays(t *testing.T) {
	a, ofA := made(t, 2, 2, 2)
	b, ofB := made(t, 2, 2, 2)
	put(t, a, ofA, data(0, 1), ack(2))
	agree(t, "b", b, ofB)
	put(t, b, ofB, ack(3))
	serve(t, b, ofB, api.Deliver)
	agree(t, "a", a, ofA)
}

func TestPortThatIsNotMade(t *testing.T) {
	for what, p := range notMade() {
		for range 2 { // nor does any call make it one
			for _, x := range slices.Concat(valid(), invalid()) {
				if v, y := p.Put(x); v != port.Lost || !wire.Same(y, api.Packet{}) {
					t.Errorf("%s: Put %d, %v", what, v, y)
				}
			}
			if x, ok := p.Peek(); ok || !wire.Same(x, api.Packet{}) {
				t.Errorf("%s: Peek %v, %v", what, x, ok)
			}
			if low, high := p.Lens(); low != 0 || high != 0 || len(p.Low()) != 0 || len(p.High()) != 0 {
				t.Errorf("%s: Lens %d, %d, Low %v, High %v", what, low, high, p.Low(), p.High())
			}
			if p.Counts() != [5]int{} {
				t.Errorf("%s: Counts %v", what, p.Counts())
			}
			if f := p.Fork(); f != nil {
				t.Errorf("%s: Fork %v", what, f)
			}
		}
	}
}

// P8.4, P8.5, P8.6: bound, no invention, weight.

// anyPacket is a packet that a source draws; each has a Seq or a Pull of its own.
func anyPacket(s *draws.Source, n int) api.Packet {
	switch s.Below(8) {
	case 0:
		return ack(n)
	case 1:
		return nack(n)
	case 2:
		return pull(n)
	case 3:
		return data(api.Fin, n)
	case 4:
		return sentBack(data(api.Trimmed, n))
	}
	x := data(api.First*s.Below(2)+api.End*s.Below(2), n)
	x.Payload = bytes.Repeat([]byte{byte(n)}, 1+s.Below(9))
	return x
}

// isOf tells whether what was served was put, apart from a payload that was cut off.
func isOf(x api.Packet, were []api.Packet) bool {
	for _, was := range were {
		cut, _ := wire.Trim(was)
		if wire.Same(x, was) || wire.Same(x, cut) {
			return true
		}
	}
	return false
}

func TestAnyCallsAgree(t *testing.T) {
	for seed := range uint64(60) {
		s := draws.New(seed)
		low, high := 1+s.Below(5), 1+s.Below(6)
		p, m := made(t, low, high, 1+s.Below(4))
		var were []api.Packet
		for n := range 200 {
			if s.Below(5) < 3 {
				x := anyPacket(s, n)
				were = append(were, x)
				put(t, p, m, x)
			} else {
				for _, x := range serve(t, p, m, api.Fate(s.Below(5))) {
					if !isOf(x, were) {
						t.Errorf("seed %d: %v was never put", seed, x)
					}
				}
			}
			if a, b := p.Lens(); a > low || b > high {
				t.Errorf("seed %d: Lens %d, %d in rooms %d, %d", seed, a, b, low, high)
			}
			agree(t, "any calls", p, m)
		}
	}
}

func TestPacketsOfOneQueueAreServedInOrder(t *testing.T) {
	for seed := range uint64(40) {
		s := draws.New(seed)
		p, m := made(t, 1+s.Below(9), 1+s.Below(9), 1+s.Below(5))
		var lastLow, lastHigh int
		for n := range 300 {
			if s.Below(2) == 0 {
				x := ack(n + 1)
				if s.Below(3) > 0 {
					x = data(0, n+1)
				}
				put(t, p, m, x)
				continue
			}
			for _, x := range serve(t, p, m, api.Deliver) {
				last := &lastHigh
				if len(x.Payload) > 0 {
					last = &lastLow
				}
				if x.Seq <= *last {
					t.Errorf("seed %d: %d after %d", seed, x.Seq, *last)
				}
				*last = x.Seq
			}
		}
	}
}

func TestOneOfWeightAndOneIsHeavy(t *testing.T) {
	for _, weight := range []int{1, 2, 3, 7, 64, 1023, 1024} {
		p, _ := made(t, 1024, 1024, weight)
		for _, x := range slices.Concat(heavies(0, 1024), acks(0, 1024)) {
			p.Put(x)
		}
		since := 0
		for range 4000 {
			l, e := p.Serve(api.Deliver)
			if e != api.OK || len(l) != 1 {
				t.Fatal(l, e)
			}
			if heavy := len(l[0].Payload) > 0; heavy != (since == weight) {
				t.Fatalf("weight %d: %d other packets, then %v", weight, since, l)
			}
			since++
			if l[0].Kind == api.Data {
				since = 0
			}
			if v, _ := p.Put(l[0]); v != port.Kept { // both queues stay full
				t.Fatal(v)
			}
		}
	}
}

func FuzzPortAgrees(f *testing.F) {
	f.Add(byte(2), byte(2), byte(1), []byte{0, 0, 0, 1, 0, 1, 5, 5, 5, 5, 5})
	f.Add(byte(1), byte(3), byte(2), []byte{0, 1, 2, 3, 6, 7, 8, 9, 13, 21, 29})
	f.Add(byte(0), byte(3), byte(2), []byte{})
	f.Fuzz(func(t *testing.T, low, high, weight byte, ops []byte) {
		if low == 0 || high == 0 || weight == 0 {
			if p, e := port.New(int(low), int(high), int(weight)); p != nil || e != api.ErrPort {
				t.Errorf("New(%d, %d, %d): %v, %d", low, high, weight, p, e)
			}
			return
		}
		p, m := made(t, int(low), int(high), int(weight))
		for n, op := range ops {
			switch op % 8 {
			case 0, 1:
				put(t, p, m, data(int(op/8), n))
			case 2:
				put(t, p, m, ack(n), pull(n))
			case 3:
				put(t, p, m, data(api.Fin+int(op/8), n))
			case 4:
				put(t, p, m, changed(nack(n), func(x *api.Packet) { x.Path = int(op / 8) }))
			case 5, 6:
				serve(t, p, m, api.Fate(op/8%6))
			case 7:
				p.Fork().Serve(api.Deliver) // what becomes of a fork is nothing to p
				p = p.Fork()
			}
			agree(t, "any calls", p, m)
		}
	})
}
