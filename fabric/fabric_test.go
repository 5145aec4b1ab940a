package fabric_test

import (
	"bytes"
	"math"
	"slices"
	"testing"

	"nozzle/api"
	"nozzle/draws"
	"nozzle/fabric"
	"nozzle/port"
	"nozzle/wire"
)

// notPlaces are numbers that neither a path nor a host has.
var notPlaces = []int{-1, -2, -8, 8, 9, 16, 64, 256, 1 << 32, 1<<32 + 1, -1 << 32, math.MaxInt, math.MinInt}

// notCounts are numbers of which there may be neither hosts nor paths.
var notCounts = []int{0, -1, -2, -8, 9, 10, 16, 64, 1 << 32, 1<<32 + 2, -1 << 32, math.MaxInt, math.MinInt}

// notSizes are numbers that neither a room nor a weight may be.
var notSizes = []int{0, -1, -1024, 1025, 2048, 1 << 32, 1<<32 + 1, -1 << 32, math.MaxInt, math.MinInt}

// notFates are numbers that no fate has.
var notFates = []api.Fate{api.NoFate, -1, 5, 6, 257, 1<<32 + 1, math.MaxInt, math.MinInt}

var allFates = []api.Fate{api.Deliver, api.Drop, api.Delay, api.Double}

// notMade are fabrics that neither New nor Fork made.
func notMade() map[string]*fabric.Fabric {
	_, _ = fabric.New(2, 2, 2, 2, 2) // a fabric elsewhere makes nothing of these
	var none *fabric.Fabric
	var zero fabric.Fabric
	few, _ := fabric.New(1, 1, 1, 1, 1)
	narrow, _ := fabric.New(2, 2, 1, 0, 1)
	return map[string]*fabric.Fabric{
		"nil": nil, "zero": {}, "new": new(fabric.Fabric), "few hosts": few, "no room": narrow,
		"fork of zero": zero.Fork(), "fork of nil": none.Fork(),
	}
}

// data is a heavy packet.
func data(path, src, dst, seq int) api.Packet {
	return api.Packet{Kind: api.Data, Path: path, Src: src, Dst: dst, Conn: 1, Seq: seq, Payload: []byte("abc")}
}

// header is data without a payload.
func header(flags, path, src, dst, seq int) api.Packet {
	return api.Packet{Kind: api.Data, Flags: flags, Path: path, Src: src, Dst: dst, Conn: 1, Seq: seq}
}

func ack(path, src, dst, seq int) api.Packet {
	return api.Packet{Kind: api.Ack, Path: path, Src: src, Dst: dst, Conn: 1, Seq: seq}
}

// several are n packets of a kind, numbered from first on.
func several(kind func(path, src, dst, seq int) api.Packet, path, src, dst, first, n int) []api.Packet {
	var out []api.Packet
	for i := range n {
		out = append(out, kind(path, src, dst, first+i))
	}
	return out
}

// model does slowly, as the document says it, what a fabric does. Its keys are a path and a host.
type model struct {
	ports  map[[2]int]*port.Port
	counts [5]int
}

func newModel(hosts, paths, low, high, weight int) *model {
	m := &model{ports: map[[2]int]*port.Port{}}
	for host := range hosts {
		for path := range paths {
			m.ports[[2]int{path, host}], _ = port.New(low, high, weight)
		}
	}
	return m
}

func (m *model) put(packets []api.Packet) [5]int {
	var out [5]int
	for _, x := range packets {
		v := m.verdict(x)
		m.counts[v]++
		out[v]++
	}
	return out
}

func (m *model) verdict(x api.Packet) port.Verdict {
	p, ok := m.ports[[2]int{x.Path, x.Dst}]
	if !ok {
		return port.Lost
	}
	v, y := p.Put(x)
	if v != port.Back {
		return v
	}
	home, ok := m.ports[[2]int{x.Path, x.Src}]
	if !ok {
		return port.Lost
	}
	if v, _ := home.Put(y); v != port.Kept {
		return port.Lost
	}
	return port.Back
}

func (m *model) serve(path, host int, fate api.Fate) ([]api.Packet, api.Errno) {
	p, ok := m.ports[[2]int{path, host}]
	if !ok {
		return nil, api.ErrRange
	}
	l, e := p.Serve(fate)
	m.counts[0] += len(l)
	return l, e
}

// packets are a port's, and how many of them are in each queue.
func (m *model) packets(path, host int) (l []api.Packet, low, high int) {
	p, ok := m.ports[[2]int{path, host}]
	if !ok {
		return nil, 0, 0
	}
	return slices.Concat(p.Low(), p.High()), len(p.Low()), len(p.High())
}

func (m *model) fork() *model {
	other := &model{ports: map[[2]int]*port.Port{}, counts: m.counts}
	for at, p := range m.ports {
		other.ports[at] = p.Fork()
	}
	return other
}

// made is a fabric, and the model of it.
func made(t *testing.T, hosts, paths, low, high, weight int) (*fabric.Fabric, *model) {
	t.Helper()
	f, e := fabric.New(hosts, paths, low, high, weight)
	if f == nil || e != api.OK {
		t.Fatalf("New(%d, %d, %d, %d, %d): %v, %d", hosts, paths, low, high, weight, f, e)
	}
	return f, newModel(hosts, paths, low, high, weight)
}

func allSame(a, b []api.Packet) bool { return slices.EqualFunc(a, b, wire.Same) }

// busy are the ports that Busy yields, each a path and a host.
func busy(f *fabric.Fabric) [][2]int {
	var out [][2]int
	for path, host := range f.Busy() {
		out = append(out, [2]int{path, host})
	}
	return out
}

// agree asks everything that a fabric tells without changing it, also of ports that there are not.
func agree(t *testing.T, what string, f *fabric.Fabric, m *model) {
	t.Helper()
	var wantBusy [][2]int
	total := 0
	for path := -1; path <= 9; path++ {
		for host := -1; host <= 9; host++ {
			want, wantLow, wantHigh := m.packets(path, host)
			if got := f.Packets(path, host); !allSame(got, want) {
				t.Errorf("%s: Packets(%d, %d) %v, not %v", what, path, host, got, want)
			}
			if low, high := f.Lens(path, host); low != wantLow || high != wantHigh {
				t.Errorf("%s: Lens(%d, %d) %d, %d, not %d, %d", what, path, host, low, high, wantLow, wantHigh)
			}
			if len(want) > 0 {
				wantBusy = append(wantBusy, [2]int{path, host})
				total += len(want)
			}
		}
	}
	if got := busy(f); !slices.Equal(got, wantBusy) {
		t.Errorf("%s: Busy %v, not %v", what, got, wantBusy)
	}
	if got := f.Total(); got != total {
		t.Errorf("%s: Total %d, not %d", what, got, total)
	}
	if got := f.Counts(); got != m.counts {
		t.Errorf("%s: Counts %v, not %v", what, got, m.counts)
	}
}

// put puts packets into a fabric and its model.
func put(t *testing.T, f *fabric.Fabric, m *model, packets ...api.Packet) [5]int {
	t.Helper()
	got := f.Put(packets...)
	if want := m.put(packets); got != want {
		t.Errorf("Put(%v): %v, not %v", packets, got, want)
	}
	return got
}

// serve lets a port of a fabric, and of its model, serve one packet.
func serve(t *testing.T, f *fabric.Fabric, m *model, path, host int, fate api.Fate) []api.Packet {
	t.Helper()
	got, e := f.Serve(path, host, fate)
	if want, of := m.serve(path, host, fate); e != of || !allSame(got, want) {
		t.Errorf("Serve(%d, %d, %d): %v, %d, not %v, %d", path, host, fate, got, e, want, of)
	}
	return got
}

// seqs are the numbers of packets.
func seqs(l []api.Packet) []int {
	var out []int
	for _, x := range l {
		out = append(out, x.Seq)
	}
	return out
}

// P9.1: New.

// TestNewHasThesePorts: for each path one to each host, each empty, and no others.
func TestNewHasThesePorts(t *testing.T) {
	for hosts := 2; hosts <= 8; hosts++ {
		for paths := 1; paths <= 8; paths++ {
			f, m := made(t, hosts, paths, 1, 1, 1)
			agree(t, "new", f, m)
			for path := -1; path <= 9; path++ {
				for host := -1; host <= 9; host++ {
					want := api.ErrRange
					if path >= 0 && path < paths && host >= 0 && host < hosts {
						want = api.ErrNone
					}
					if l, e := f.Serve(path, host, api.Deliver); len(l) != 0 || e != want {
						t.Errorf("%d hosts, %d paths: Serve(%d, %d) %v, %d", hosts, paths, path, host, l, e)
					}
				}
			}
		}
	}
}

// TestNewRefusesHostsAndPaths: ErrFabric is ahead of what the ports would say.
func TestNewRefusesHostsAndPaths(t *testing.T) {
	for _, size := range []int{1, 1024, 0, 1025} {
		for _, n := range notCounts {
			for _, c := range [][2]int{{n, 1}, {n, 8}, {2, n}, {8, n}, {n, n}} {
				if f, e := fabric.New(c[0], c[1], size, size, size); f != nil || e != api.ErrFabric {
					t.Errorf("New%v of %d: %v, %d", c, size, f, e)
				}
			}
		}
		for paths := 1; paths <= 8; paths++ { // one path is enough, one host is not
			if f, e := fabric.New(1, paths, size, size, size); f != nil || e != api.ErrFabric {
				t.Errorf("New(1, %d) of %d: %v, %d", paths, size, f, e)
			}
		}
	}
}

func TestNewRefusesWhatPortDoes(t *testing.T) {
	for _, n := range notSizes {
		for _, c := range [][3]int{{n, 1, 1}, {1, n, 1}, {1, 1, n}, {n, 1024, 1024}, {1024, n, 1024}, {1024, 1024, n}, {n, n, n}} {
			if f, e := fabric.New(2, 1, c[0], c[1], c[2]); f != nil || e != api.ErrPort {
				t.Errorf("New%v: %v, %d", c, f, e)
			}
			if f, e := fabric.New(8, 8, c[0], c[1], c[2]); f != nil || e != api.ErrPort {
				t.Errorf("New%v: %v, %d", c, f, e)
			}
		}
	}
}

// TestEachPortHasItsRoomsAndWeight: no port takes from the room of another, nor from its run.
func TestEachPortHasItsRoomsAndWeight(t *testing.T) {
	f, m := made(t, 3, 2, 4, 3, 2)
	for path := range 2 {
		for host := range 3 {
			src := (host + 1) % 3
			if n := put(t, f, m, several(data, path, src, host, 0, 4)...); n != [5]int{port.Kept: 4} {
				t.Error(path, host, n)
			}
			if n := put(t, f, m, several(ack, path, src, host, 10, 3)...); n != [5]int{port.Kept: 3} {
				t.Error(path, host, n)
			}
			if n := put(t, f, m, ack(path, src, host, 13)); n != [5]int{port.Lost: 1} {
				t.Error(path, host, n)
			}
		}
	}
	agree(t, "full", f, m)
	if f.Total() != 42 {
		t.Error(f.Total())
	}
	for _, want := range []int{10, 11, 0, 12, 1, 2, 3} { // a weight of 2
		for path := range 2 {
			for host := range 3 {
				if l := serve(t, f, m, path, host, api.Deliver); !slices.Equal(seqs(l), []int{want}) {
					t.Errorf("port %d, %d: %v, not %d", path, host, l, want)
				}
			}
		}
	}
	agree(t, "empty", f, m)
}

func TestGreatestRooms(t *testing.T) {
	f, m := made(t, 8, 8, 1024, 1024, 1024)
	n := put(t, f, m, several(data, 7, 0, 7, 0, 3073)...)
	if n != [5]int{port.Kept: 1024, port.Cut: 1024, port.Back: 1024, port.Lost: 1} {
		t.Error(n)
	}
	agree(t, "full", f, m)
	if f.Total() != 3072 {
		t.Error(f.Total())
	}
}

// P9.1: Put.

func TestExampleOfTheChapter(t *testing.T) {
	l := several(data, 1, 0, 2, 0, 4)
	f, m := made(t, 3, 2, 1, 1, 1)
	if n := put(t, f, m, l...); n != [5]int{0, 1, 1, 1, 1} {
		t.Error(n)
	}
	agree(t, "at once", f, m)
	g, of := made(t, 3, 2, 1, 1, 1)
	for i, want := range []port.Verdict{port.Kept, port.Cut, port.Back, port.Lost} {
		told := [5]int{}
		told[want] = 1
		if n := put(t, g, of, l[i]); n != told {
			t.Errorf("packet %d: %v", i, n)
		}
	}
	agree(t, "one by one", g, of)
	back := header(api.Trimmed+api.Bounced, 1, 2, 0, 2)
	for _, f := range []*fabric.Fabric{f, g} {
		if !allSame(f.Packets(1, 2), []api.Packet{data(1, 0, 2, 0), header(api.Trimmed, 1, 0, 2, 1)}) || !allSame(f.Packets(1, 0), []api.Packet{back}) {
			t.Error(f.Packets(1, 2), f.Packets(1, 0))
		}
		if f.Counts() != [5]int{0, 1, 1, 1, 1} || f.Total() != 3 {
			t.Error(f.Counts(), f.Total())
		}
	}
}

// TestPutGoesByPathAndDst: who sent a packet, and on which connection, is nothing to a port.
func TestPutGoesByPathAndDst(t *testing.T) {
	f, m := made(t, 8, 8, 8, 8, 1)
	for path := range 8 {
		for dst := range 8 {
			x := data(path, (dst+1+path%7)%8, dst, 8*path+dst)
			x.Conn = 1<<30 - path
			if n := put(t, f, m, x, ack(path, (dst+1)%8, dst, 64)); n != [5]int{port.Kept: 2} {
				t.Error(n)
			}
			if l := f.Packets(path, dst); !slices.Equal(seqs(l), []int{8*path + dst, 64}) {
				t.Errorf("port %d, %d: %v", path, dst, l)
			}
		}
	}
	agree(t, "one each", f, m)
}

func TestPutOfNothing(t *testing.T) {
	f, m := made(t, 2, 1, 1, 1, 1)
	for range 2 {
		if n := put(t, f, m); n != [5]int{} {
			t.Error(n)
		}
		agree(t, "nothing", f, m)
		put(t, f, m, data(0, 0, 1, 0))
	}
}

// TestPutLosesWhatHasNoPort: also valid packets, of a path or for a host that this fabric has not.
func TestPutLosesWhatHasNoPort(t *testing.T) {
	f, m := made(t, 3, 2, 2, 2, 1)
	put(t, f, m, data(1, 0, 2, 0))
	for _, n := range append([]int{2, 3, 7}, notPlaces...) {
		told := [5]int{port.Lost: 2}
		if got := put(t, f, m, data(n, 0, 1, 0), ack(n, 0, 1, 0)); got != told {
			t.Errorf("path %d: %v", n, got)
		}
		if n == 2 {
			continue // there is such a host
		}
		if got := put(t, f, m, data(0, 0, n, 0), ack(0, 0, n, 0)); got != told {
			t.Errorf("to %d: %v", n, got)
		}
	}
	agree(t, "no port", f, m)
	if c := f.Counts(); c[port.Lost] < 50 || c[port.Kept] != 1 {
		t.Error(c)
	}
}

func TestPutLosesWhatIsNoPacket(t *testing.T) {
	f, m := made(t, 3, 2, 2, 2, 1)
	bad := []api.Packet{
		{}, {Kind: api.Data}, {Path: 1, Src: 0, Dst: 2, Conn: 1}, header(0, 1, 0, 2, 3), data(1, 2, 2, 3), data(1, -1, 2, 3), data(1, 8, 2, 3),
		header(api.Bounced, 1, 0, 2, 3), header(api.First, 1, 0, 2, 3), ack(1, 0, 2, -1), data(1, 0, 2, 1<<60+1), header(64, 1, 0, 2, 3),
	}
	for range 2 {
		for _, x := range bad {
			if n := put(t, f, m, x); n != [5]int{port.Lost: 1} {
				t.Errorf("%v: %v", x, n)
			}
			agree(t, "no packet", f, m)
		}
		put(t, f, m, data(1, 0, 2, 5), ack(1, 0, 2, 6))
	}
}

// TestPutReturnsByTheSamePath: whatever data finds no room goes to the port of who sent it, as a header.
func TestPutReturnsByTheSamePath(t *testing.T) {
	for path := range 3 {
		for _, x := range []api.Packet{
			data(path, 1, 3, 9), header(api.Fin, path, 1, 3, 9), header(api.Trimmed, path, 1, 3, 9),
			header(api.First+api.End+api.Urgent+api.Trimmed, path, 1, 3, 9), header(api.Fin+api.Trimmed, path, 1, 3, 9),
		} {
			f, m := made(t, 4, 3, 1, 1, 1)
			put(t, f, m, data(path, 0, 3, 0), ack(path, 0, 3, 1))
			if n := put(t, f, m, x); n != [5]int{port.Back: 1} {
				t.Errorf("%v: %v", x, n)
			}
			flags := x.Flags + api.Bounced
			if x.Flags&api.Trimmed == 0 {
				flags += api.Trimmed
			}
			if l := f.Packets(path, 1); !allSame(l, []api.Packet{header(flags, path, 3, 1, 9)}) {
				t.Errorf("%v: returned %v", x, l)
			}
			if want := [][2]int{{path, 1}, {path, 3}}; !slices.Equal(busy(f), want) {
				t.Errorf("%v: Busy %v", x, busy(f))
			}
			agree(t, "returned", f, m)
		}
	}
}

// TestPutLosesWhatCannotGoBack: the port of who sent it is full, or there is none; or it is nothing that goes back.
func TestPutLosesWhatCannotGoBack(t *testing.T) {
	for _, x := range []api.Packet{
		data(1, 0, 2, 9), header(api.Trimmed, 1, 0, 2, 9), header(api.Fin, 1, 0, 2, 9), // its port is full
		data(1, 3, 2, 9), data(1, 7, 2, 9), header(api.Fin, 1, 3, 2, 9), // there is no port
		header(api.Trimmed+api.Bounced, 1, 1, 2, 9), ack(1, 1, 2, 9), // there is a port, and room
		{Kind: api.Nack, Path: 1, Src: 1, Dst: 2, Conn: 1}, {Kind: api.Pull, Path: 1, Src: 1, Dst: 2, Conn: 1, Pull: 3},
	} {
		f, m := made(t, 3, 2, 1, 1, 1)
		put(t, f, m, data(1, 0, 2, 0), ack(1, 0, 2, 1), ack(1, 1, 0, 2))
		for range 2 {
			if n := put(t, f, m, x); n != [5]int{port.Lost: 1} {
				t.Errorf("%v: %v", x, n)
			}
			agree(t, "lost", f, m)
		}
		if f.Total() != 3 || len(f.Packets(1, 1)) != 0 {
			t.Errorf("%v: Total %d, %v", x, f.Total(), f.Packets(1, 1))
		}
	}
}

// TestPutReturnsIntoTheHighQueueOnly: a low queue that is full is nothing to what goes back.
func TestPutReturnsIntoTheHighQueueOnly(t *testing.T) {
	f, m := made(t, 2, 1, 2, 2, 1)
	put(t, f, m, several(data, 0, 1, 0, 0, 2)...)
	put(t, f, m, several(data, 0, 0, 1, 10, 2)...)
	put(t, f, m, several(ack, 0, 0, 1, 20, 2)...)
	if n := put(t, f, m, several(data, 0, 0, 1, 30, 3)...); n != [5]int{port.Back: 2, port.Lost: 1} {
		t.Error(n)
	}
	if l := f.Packets(0, 0); !slices.Equal(seqs(l), []int{0, 1, 30, 31}) {
		t.Error(l)
	}
	agree(t, "returned", f, m)
}

// TestPutIsInOrder: what is returned is in its port ahead of the packets that come after it.
func TestPutIsInOrder(t *testing.T) {
	f, m := made(t, 2, 1, 1, 2, 1)
	n := put(t, f, m, ack(0, 0, 1, 1), ack(0, 0, 1, 2), data(0, 0, 1, 3), data(0, 0, 1, 4), ack(0, 1, 0, 5), ack(0, 1, 0, 6))
	if n != [5]int{port.Kept: 4, port.Back: 1, port.Lost: 1} {
		t.Error(n)
	}
	if l := f.Packets(0, 0); !slices.Equal(seqs(l), []int{4, 5}) {
		t.Error(l)
	}
	agree(t, "in order", f, m)
	g, of := made(t, 2, 1, 1, 2, 1)
	n = put(t, g, of, ack(0, 1, 0, 5), ack(0, 1, 0, 6), data(0, 0, 1, 3), data(0, 0, 1, 4), ack(0, 0, 1, 1), data(0, 0, 1, 2))
	if n != [5]int{port.Kept: 4, port.Cut: 1, port.Lost: 1} {
		t.Error(n)
	}
	agree(t, "in another order", g, of)
}

// TestPutTellsOfThisCallOnly: Counts are the sums.
func TestPutTellsOfThisCallOnly(t *testing.T) {
	f, m := made(t, 2, 1, 3, 3, 1)
	for i, want := range [][5]int{{0, 2, 0, 0, 0}, {0, 1, 1, 0, 0}, {0, 0, 2, 0, 0}, {0, 0, 0, 2, 0}, {0, 0, 0, 1, 1}, {0, 0, 0, 0, 2}} {
		if n := put(t, f, m, several(data, 0, 0, 1, 2*i, 2)...); n != want {
			t.Errorf("call %d: %v, not %v", i, n, want)
		}
		agree(t, "counted", f, m)
	}
	if f.Counts() != [5]int{0, 3, 3, 3, 3} {
		t.Error(f.Counts())
	}
}

func TestPutNeitherKeepsNorChangesItsArguments(t *testing.T) {
	f, m := made(t, 2, 1, 1, 1, 1)
	b := []byte("abcdef")
	var l []api.Packet
	for i := range 4 {
		x := data(0, 0, 1, i)
		x.Payload = b[:3]
		l = append(l, x)
	}
	f.Put(l...)
	m.put(several(data, 0, 0, 1, 0, 4))
	if string(b) != "abcdef" {
		t.Errorf("the payload was changed: %s", b)
	}
	for i, x := range l {
		if !wire.Same(x, data(0, 0, 1, i)) || cap(x.Payload) != 6 {
			t.Errorf("argument %d was changed: %v", i, x)
		}
	}
	clear(b)
	clear(l)
	agree(t, "the arguments were changed", f, m)
}

// P9.2: Serve.

func TestServeWithEachFate(t *testing.T) {
	for _, c := range []struct {
		fate      api.Fate
		out, rest []int
		served    int
	}{
		{api.Deliver, []int{5}, []int{1, 6}, 1},
		{api.Drop, nil, []int{1, 6}, 0},
		{api.Delay, nil, []int{1, 6, 5}, 0},
		{api.Double, []int{5}, []int{1, 6, 5}, 1},
	} {
		f, m := made(t, 3, 3, 2, 2, 2)
		put(t, f, m, data(2, 0, 1, 1), ack(2, 0, 1, 5), ack(2, 0, 1, 6), ack(1, 0, 2, 7), data(0, 2, 1, 8), ack(2, 1, 0, 9))
		l := serve(t, f, m, 2, 1, c.fate)
		if !slices.Equal(seqs(l), c.out) || !slices.Equal(seqs(f.Packets(2, 1)), c.rest) {
			t.Errorf("fate %d: %v, then %v", c.fate, l, f.Packets(2, 1))
		}
		if f.Counts() != [5]int{c.served, 6, 0, 0, 0} || f.Total() != 3+len(c.rest) {
			t.Errorf("fate %d: Counts %v, Total %d", c.fate, f.Counts(), f.Total())
		}
		agree(t, "served", f, m)
	}
}

func TestServeOfEachPort(t *testing.T) {
	f, m := made(t, 8, 8, 1, 1, 1)
	for path := range 8 {
		for host := range 8 {
			put(t, f, m, data(path, (host+1)%8, host, 8*path+host), ack(path, (host+1)%8, host, 100))
		}
	}
	for path := range 8 {
		for host := range 8 {
			first := serve(t, f, m, path, host, api.Deliver)
			second := serve(t, f, m, path, host, api.Deliver)
			if !slices.Equal(seqs(first), []int{100}) || !slices.Equal(seqs(second), []int{8*path + host}) {
				t.Errorf("port %d, %d: %v, %v", path, host, first, second)
			}
			if l, e := f.Serve(path, host, api.Deliver); len(l) != 0 || e != api.ErrNone {
				t.Errorf("port %d, %d: %v, %d", path, host, l, e)
			}
		}
		agree(t, "served", f, m)
	}
	if f.Counts() != [5]int{128, 128, 0, 0, 0} || f.Total() != 0 {
		t.Error(f.Counts(), f.Total())
	}
}

// TestServeOfNoPort: ErrRange is ahead of what the port would say.
func TestServeOfNoPort(t *testing.T) {
	f, m := made(t, 3, 2, 1, 1, 1)
	put(t, f, m, data(0, 1, 0, 3), data(1, 0, 2, 4), ack(1, 0, 2, 5))
	for _, fate := range append(allFates, notFates...) {
		for _, n := range append([]int{3, 7}, notPlaces...) {
			for _, at := range [][2]int{{n, 0}, {0, n}, {n, n}, {1, n}, {n, 2}} {
				if l, e := f.Serve(at[0], at[1], fate); len(l) != 0 || e != api.ErrRange {
					t.Errorf("Serve(%d, %d, %d): %v, %d", at[0], at[1], fate, l, e)
				}
			}
		}
		if l, e := f.Serve(2, 0, fate); len(l) != 0 || e != api.ErrRange {
			t.Errorf("path 2, fate %d: %v, %d", fate, l, e)
		}
	}
	agree(t, "no port", f, m)
}

// TestServeWithoutAFate: ErrPort is ahead of ErrNone.
func TestServeWithoutAFate(t *testing.T) {
	f, m := made(t, 3, 2, 2, 2, 1)
	put(t, f, m, data(1, 0, 2, 1), ack(1, 0, 2, 2))
	for _, fate := range notFates {
		for path := range 2 {
			for host := range 3 {
				if l, e := f.Serve(path, host, fate); len(l) != 0 || e != api.ErrPort {
					t.Errorf("Serve(%d, %d, %d): %v, %d", path, host, fate, l, e)
				}
			}
		}
		agree(t, "no fate", f, m)
	}
	for _, fate := range allFates {
		if l, e := f.Serve(0, 2, fate); len(l) != 0 || e != api.ErrNone {
			t.Errorf("fate %d: %v, %d", fate, l, e)
		}
	}
	agree(t, "no packet", f, m)
}

// P9.3: the others.

func TestPacketsAreThoseOfTheLowQueueFirst(t *testing.T) {
	f, m := made(t, 2, 1, 2, 4, 1)
	put(t, f, m, ack(0, 0, 1, 1), data(0, 0, 1, 2), ack(0, 0, 1, 3), data(0, 0, 1, 4), data(0, 0, 1, 5), header(api.Fin, 0, 0, 1, 6))
	want := []api.Packet{data(0, 0, 1, 2), data(0, 0, 1, 4), ack(0, 0, 1, 1), ack(0, 0, 1, 3), header(api.Trimmed, 0, 0, 1, 5), header(api.Fin, 0, 0, 1, 6)}
	if got := f.Packets(0, 1); !allSame(got, want) {
		t.Errorf("%v, not %v", got, want)
	}
	if low, high := f.Lens(0, 1); low != 2 || high != 4 {
		t.Error(low, high)
	}
	agree(t, "packets", f, m)
}

func TestWhatThereIsOfNoPort(t *testing.T) {
	f, m := made(t, 3, 2, 2, 2, 1)
	for path := range 2 {
		for host := range 3 {
			put(t, f, m, data(path, (host+1)%3, host, 1), ack(path, (host+1)%3, host, 2))
		}
	}
	for _, n := range append([]int{3, 7}, notPlaces...) {
		for _, at := range [][2]int{{n, 0}, {0, n}, {n, n}, {2, 0}} {
			if low, high := f.Lens(at[0], at[1]); low != 0 || high != 0 {
				t.Errorf("Lens%v: %d, %d", at, low, high)
			}
			if l := f.Packets(at[0], at[1]); len(l) != 0 {
				t.Errorf("Packets%v: %v", at, l)
			}
		}
	}
	agree(t, "full", f, m)
}

// TestBusyIsInOrder: of paths, then hosts, however packets came; a packet in either queue is enough.
func TestBusyIsInOrder(t *testing.T) {
	f, m := made(t, 8, 8, 2, 2, 1)
	for _, at := range draws.Shuffle(draws.New(9), []int{7, 62, 8, 16, 63, 0, 33, 15, 40, 1}) {
		kind := data
		if at%2 == 0 {
			kind = ack
		}
		put(t, f, m, kind(at/8, (at+1)%8, at%8, at))
	}
	want := [][2]int{{0, 0}, {0, 1}, {0, 7}, {1, 0}, {1, 7}, {2, 0}, {4, 1}, {5, 0}, {7, 6}, {7, 7}}
	if got := busy(f); !slices.Equal(got, want) {
		t.Errorf("%v, not %v", got, want)
	}
	agree(t, "busy", f, m)
	serve(t, f, m, 1, 7, api.Drop)
	serve(t, f, m, 4, 1, api.Delay)
	want = slices.Delete(want, 4, 5)
	if got := busy(f); !slices.Equal(got, want) {
		t.Errorf("%v, not %v", got, want)
	}
}

func TestBusyStops(t *testing.T) {
	f, m := made(t, 4, 4, 2, 2, 1)
	for path := range 4 {
		for host := range 4 {
			put(t, f, m, ack(path, (host+1)%4, host, 0))
		}
	}
	for most := 1; most <= 16; most++ {
		n := 0
		for path, host := range f.Busy() {
			if path != n/4 || host != n%4 {
				t.Errorf("%d: %d, %d", n, path, host)
			}
			n++
			if n == most {
				break
			}
		}
		if n != most {
			t.Errorf("%d ports, not %d", n, most)
		}
	}
	agree(t, "ranged over", f, m)
}

// TestBusyWhileTheFabricChanges: it yields the ports that were busy when it was called, each time that it is ranged over.
func TestBusyWhileTheFabricChanges(t *testing.T) {
	f, m := made(t, 3, 2, 3, 3, 1)
	put(t, f, m, data(0, 0, 1, 1), data(1, 0, 1, 2), data(1, 0, 2, 3))
	all := f.Busy()
	want := [][2]int{{0, 1}, {1, 1}, {1, 2}}
	for range 2 {
		var got [][2]int
		for path, host := range all {
			got = append(got, [2]int{path, host})
			serve(t, f, m, path, host, api.Deliver)
			serve(t, f, m, 1, 2, api.Drop)
			put(t, f, m, ack(1, 1, 0, 9))
		}
		if !slices.Equal(got, want) {
			t.Errorf("%v, not %v", got, want)
		}
		agree(t, "changed", f, m)
	}
	if got := busy(f); !slices.Equal(got, [][2]int{{1, 0}}) {
		t.Error(got)
	}
}

func TestTotalIsOfAllPortsAndQueues(t *testing.T) {
	f, m := made(t, 8, 8, 2, 2, 1)
	n := 0
	for path := range 8 {
		for host := range 8 {
			put(t, f, m, data(path, (host+1)%8, host, 1), ack(path, (host+1)%8, host, 2), ack(path, (host+1)%8, host, 3))
			n += 3
			if f.Total() != n {
				t.Errorf("port %d, %d: Total %d, not %d", path, host, f.Total(), n)
			}
		}
	}
	agree(t, "three each", f, m)
}

func TestCountsAreEachTheirOwn(t *testing.T) {
	f, m := made(t, 3, 2, 7, 5, 3)
	put(t, f, m, several(data, 0, 1, 2, 0, 9)...)  // 7 kept, 2 cut
	put(t, f, m, several(ack, 0, 1, 2, 20, 8)...)  // 3 kept, 5 lost
	put(t, f, m, several(data, 0, 1, 2, 30, 4)...) // 4 back
	put(t, f, m, several(data, 0, 5, 2, 40, 2)...) // 2 lost: nobody to return them to
	put(t, f, m, several(data, 5, 1, 2, 50, 3)...) // 3 lost: there is no such path
	for range 6 {
		serve(t, f, m, 0, 2, api.Double)
	}
	serve(t, f, m, 0, 1, api.Deliver)
	serve(t, f, m, 0, 2, api.Drop)
	serve(t, f, m, 0, 2, api.Delay)
	serve(t, f, m, 1, 2, api.Deliver)
	serve(t, f, m, 2, 2, api.Deliver)
	serve(t, f, m, 0, 2, api.NoFate)
	if f.Counts() != [5]int{7, 10, 2, 4, 10} {
		t.Error(f.Counts())
	}
	agree(t, "counted", f, m)
}

// spoil changes all that an answer refers to.
func spoil(l []api.Packet) {
	for i, x := range l {
		clear(x.Payload)
		l[i] = api.Packet{Kind: api.Pull}
	}
	_ = append(l, api.Packet{Kind: api.Nack})
}

func TestAnswersAreNewMemory(t *testing.T) {
	f, m := made(t, 2, 1, 3, 3, 1)
	put(t, f, m, data(0, 0, 1, 1), data(0, 0, 1, 2), ack(0, 0, 1, 3))
	spoil(f.Packets(0, 1))
	agree(t, "what Packets answered was changed", f, m)
	for range 4 {
		l, _ := f.Serve(0, 1, api.Double)
		m.serve(0, 1, api.Double)
		spoil(l)
		agree(t, "what Serve answered was changed", f, m)
	}
	l := f.Packets(0, 1)
	want := seqs(l)
	serve(t, f, m, 0, 1, api.Deliver)
	put(t, f, m, data(0, 0, 1, 9))
	if !slices.Equal(seqs(l), want) || string(l[0].Payload) != "abc" {
		t.Error("what Packets answered changes with the fabric:", l)
	}
}

func TestForkGoesItsOwnWay(t *testing.T) {
	f, m := made(t, 3, 2, 2, 2, 2)
	put(t, f, m, several(data, 1, 0, 2, 0, 5)...)
	put(t, f, m, data(0, 2, 1, 10), ack(0, 2, 1, 11), ack(1, 0, 1, 12))
	serve(t, f, m, 1, 2, api.Double) // the run is 1
	fork, of := f.Fork(), m.fork()
	agree(t, "fork", fork, of)
	serve(t, f, m, 1, 2, api.Deliver)
	put(t, f, m, data(1, 1, 2, 20), ack(0, 1, 0, 21))
	agree(t, "the fabric", f, m)
	agree(t, "the fork, after the fabric went on", fork, of)
	second, ofSecond := fork.Fork(), of.fork()
	for i, fate := range []api.Fate{api.Drop, api.Delay, api.Double, api.Deliver, api.Deliver} {
		for path := range 2 {
			for host := range 3 {
				serve(t, fork, of, path, host, fate)
				put(t, fork, of, data(path, (host+1)%3, host, 30+i), ack(path, (host+2)%3, host, 40+i))
			}
		}
		agree(t, "the fork", fork, of)
		agree(t, "the fabric, after the fork went on", f, m)
		agree(t, "the fork of the fork", second, ofSecond)
	}
	for range 5 {
		for path := range 3 { // a fork has no port that the fabric has not
			for host := range 4 {
				serve(t, second, ofSecond, path, host, api.Deliver)
			}
		}
		agree(t, "the fork of the fork", second, ofSecond)
	}
}

func TestForkSharesNoMemory(t *testing.T) {
	f, m := made(t, 2, 1, 2, 2, 2)
	put(t, f, m, data(0, 0, 1, 1))
	fork, of := f.Fork(), m.fork()
	l, _ := f.Serve(0, 1, api.Deliver)
	spoil(l)
	agree(t, "what the fabric served was changed", fork, of)
}

func TestFabricsGoTheirOwnWays(t *testing.T) {
	a, ofA := made(t, 2, 1, 2, 2, 2)
	b, ofB := made(t, 2, 1, 2, 2, 2)
	put(t, a, ofA, data(0, 0, 1, 1), ack(0, 0, 1, 2))
	agree(t, "b", b, ofB)
	put(t, b, ofB, ack(0, 0, 1, 3))
	serve(t, b, ofB, 0, 1, api.Deliver)
	agree(t, "a", a, ofA)
}

func TestFabricThatIsNotMade(t *testing.T) {
	for what, f := range notMade() {
		for range 2 { // nor does any call make it one
			if n := f.Put(data(0, 0, 1, 1), ack(0, 0, 1, 2), api.Packet{}, data(9, 0, 1, 1)); n != [5]int{} {
				t.Errorf("%s: Put %v", what, n)
			}
			for _, fate := range append(allFates, notFates...) { // ErrNil is ahead of all others
				for _, n := range append([]int{0, 1, 7}, notPlaces...) {
					if l, e := f.Serve(n, n, fate); len(l) != 0 || e != api.ErrNil {
						t.Errorf("%s: Serve(%d, %d, %d) %v, %d", what, n, n, fate, l, e)
					}
				}
			}
			for _, n := range append([]int{0, 1, 7}, notPlaces...) {
				if low, high := f.Lens(n, n); low != 0 || high != 0 || len(f.Packets(n, n)) != 0 {
					t.Errorf("%s: Lens %d, %d, Packets %v", what, low, high, f.Packets(n, n))
				}
			}
			if len(busy(f)) != 0 || f.Total() != 0 || f.Counts() != [5]int{} || f.Fork() != nil {
				t.Errorf("%s: Busy %v, Total %d, Counts %v, Fork %v", what, busy(f), f.Total(), f.Counts(), f.Fork())
			}
		}
	}
}

// P9.4, P9.5: bound, count.

// anyPacket is a packet that a source draws, mostly of a port that there is.
func anyPacket(s *draws.Source, hosts, paths, n int) api.Packet {
	path, src, dst := s.Below(paths), s.Below(hosts), s.Below(hosts)
	switch s.Below(12) {
	case 0, 1:
		return ack(path, src, dst, n)
	case 2:
		return header(api.Fin, path, src, dst, n)
	case 3:
		return header(api.Trimmed+api.Bounced, path, src, dst, n)
	case 4:
		return api.Packet{Kind: api.Pull, Path: path, Src: src, Dst: dst, Conn: 1, Pull: n}
	case 5:
		return data(path, s.Below(9), s.Below(9), n)
	case 6:
		return data(s.Below(9), src, dst, n)
	}
	x := data(path, src, dst, n)
	x.Payload = bytes.Repeat([]byte{byte(n)}, 1+s.Below(9))
	return x
}

func TestAnyCallsAgree(t *testing.T) {
	for seed := range uint64(40) {
		s := draws.New(seed)
		hosts, paths, low, high := 2+s.Below(3), 1+s.Below(3), 1+s.Below(4), 1+s.Below(4)
		f, m := made(t, hosts, paths, low, high, 1+s.Below(3))
		total := 0 // what P9.5 says
		for n := range 120 {
			if s.Below(2) == 0 {
				var l []api.Packet
				for range s.Below(6) {
					l = append(l, anyPacket(s, hosts, paths, n))
				}
				told := put(t, f, m, l...)
				if told[0] != 0 || told[1]+told[2]+told[3]+told[4] != len(l) {
					t.Errorf("seed %d: %v of %d packets", seed, told, len(l))
				}
				total += told[port.Kept] + told[port.Cut] + told[port.Back]
			} else {
				path, host, fate := s.Below(paths+1), s.Below(hosts+1), api.Fate(s.Below(6))
				a, b := f.Lens(path, host)
				serve(t, f, m, path, host, fate)
				if a+b > 0 && (fate == api.Deliver || fate == api.Drop) {
					total--
				}
			}
			agree(t, "any calls", f, m)
			if f.Total() != total {
				t.Errorf("seed %d: Total %d, not %d", seed, f.Total(), total)
			}
			for path := range paths {
				for host := range hosts {
					if a, b := f.Lens(path, host); a > low || b > high {
						t.Errorf("seed %d: Lens(%d, %d) %d, %d in rooms %d, %d", seed, path, host, a, b, low, high)
					}
				}
			}
		}
	}
}

func FuzzFabricAgrees(f *testing.F) {
	f.Add(byte(2), byte(1), byte(1), byte(1), byte(1), []byte{0, 8, 8, 8, 8, 5, 5, 6, 13})
	f.Add(byte(3), byte(2), byte(2), byte(4), byte(1), []byte{1, 2, 3, 64, 130, 255, 4, 12, 20, 7, 68})
	f.Add(byte(9), byte(8), byte(1), byte(1), byte(0), []byte{})
	f.Add(byte(2), byte(1), byte(1), byte(0), byte(1), []byte{})
	f.Fuzz(func(t *testing.T, hosts, paths, low, high, weight byte, ops []byte) {
		want := api.OK
		if hosts < 2 || hosts > 8 || paths < 1 || paths > 8 {
			want = api.ErrFabric
		} else if low == 0 || high == 0 || weight == 0 {
			want = api.ErrPort
		}
		if want != api.OK {
			if x, e := fabric.New(int(hosts), int(paths), int(low), int(high), int(weight)); x != nil || e != want {
				t.Errorf("New(%d, %d, %d, %d, %d): %v, %d", hosts, paths, low, high, weight, x, e)
			}
			return
		}
		x, m := made(t, int(hosts), int(paths), int(low), int(high), int(weight))
		for n, op := range ops {
			path, src, dst := int(op/8)%int(paths+1), n%int(hosts+1), int(op/64)%int(hosts)
			switch op % 8 {
			case 0, 1:
				put(t, x, m, several(data, path, src, dst, n, n%4)...)
			case 2:
				put(t, x, m, ack(path, src, dst, n))
			case 3:
				put(t, x, m, header(api.Fin, path, src, dst, n), header(api.Trimmed+api.Bounced, path, src, dst, n))
			case 4, 5, 6:
				serve(t, x, m, path, src, api.Fate(op/16%6))
			case 7:
				x.Fork().Put(ack(0, 0, 1, n)) // what becomes of a fork is nothing to x
				x = x.Fork()
			}
			agree(t, "any calls", x, m)
		}
	})
}
