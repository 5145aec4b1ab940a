package wire_test

import (
	"bytes"
	"encoding/binary"
	"hash/adler32"
	"math"
	"slices"
	"testing"

	"nozzle/api"
	"nozzle/wire"
)

// Flags of valid data, written out one by one.
var (
	flagsWithPayload = []int{0, 1, 2, 3, 32, 33, 34, 35}
	// Without a payload: Fin; Trimmed; both; the last two with Bounced.
	flagsWithout = []int{
		4, 5, 36, 37,
		8, 9, 10, 11, 40, 41, 42, 43,
		12, 13, 44, 45,
		24, 25, 26, 27, 56, 57, 58, 59,
		28, 29, 60, 61,
	}
)

func data(flags, n int) api.Packet {
	return api.Packet{Kind: api.Data, Flags: flags, Path: 2, Src: 1, Dst: 3, Conn: 70000, Seq: 1 << 40, Payload: noise(n)}
}

func ack() api.Packet {
	return api.Packet{Kind: api.Ack, Path: 5, Src: 4, Dst: 6, Conn: 9, Seq: 12}
}

func nack() api.Packet {
	return api.Packet{Kind: api.Nack, Path: 7, Src: 7, Dst: 0, Conn: 1, Seq: 0}
}

func pull() api.Packet {
	return api.Packet{Kind: api.Pull, Path: 0, Src: 0, Dst: 7, Conn: 3, Pull: 77}
}

// noise are n bytes of which no two neighbours are likely to be alike; nil if there are none.
func noise(n int) []byte {
	var out []byte
	x := uint32(n)
	for range n {
		x = x*1664525 + 1013904223
		out = append(out, byte(x>>24))
	}
	return out
}

// valid are packets that may be: all kinds, all flags, and every field at its limits.
func valid() []api.Packet {
	out := []api.Packet{ack(), nack(), pull()}
	for _, flags := range flagsWithPayload {
		for _, n := range []int{1, 2, 5, 1023, 1024} {
			out = append(out, data(flags, n))
		}
	}
	for _, flags := range flagsWithout {
		out = append(out, data(flags, 0))
	}
	for _, p := range []api.Packet{data(api.First, 3), data(api.Trimmed, 0), ack(), nack(), pull()} {
		for _, change := range []func(p *api.Packet){
			func(p *api.Packet) { p.Path = 0 },
			func(p *api.Packet) { p.Path = 7 },
			func(p *api.Packet) { p.Src, p.Dst = 0, 7 },
			func(p *api.Packet) { p.Src, p.Dst = 7, 0 },
			func(p *api.Packet) { p.Src, p.Dst = 0, 1 },
			func(p *api.Packet) { p.Conn = 1 },
			func(p *api.Packet) { p.Conn = 1 << 30 },
			func(p *api.Packet) { p.Payload = slices.Concat([]byte{}, p.Payload) },
			func(p *api.Packet) { setOwn(p, 0) },
			func(p *api.Packet) { setOwn(p, 1) },
			func(p *api.Packet) { setOwn(p, 1<<60) },
		} {
			x := p
			change(&x)
			out = append(out, x)
		}
	}
	return out
}

// setOwn sets the number that a kind has: Pull of a Pull, Seq of all others.
func setOwn(p *api.Packet, n int) {
	if p.Kind == api.Pull {
		p.Pull = n
	} else {
		p.Seq = n
	}
}

// invalid are packets that may not be, each for one reason.
func invalid() []api.Packet {
	out := []api.Packet{{}}
	for _, p := range []api.Packet{data(api.First, 3), data(api.Trimmed, 0), ack(), nack(), pull()} {
		for _, change := range []func(p *api.Packet){
			func(p *api.Packet) { p.Kind = api.NoKind },
			func(p *api.Packet) { p.Kind = 5 },
			func(p *api.Packet) { p.Kind = -1 },
			func(p *api.Packet) { p.Kind += 256 },
			func(p *api.Packet) { p.Kind -= 256 },
			func(p *api.Packet) { p.Path = -1 },
			func(p *api.Packet) { p.Path = 8 },
			func(p *api.Packet) { p.Path += 256 },
			func(p *api.Packet) { p.Path = math.MinInt },
			func(p *api.Packet) { p.Src = -1 },
			func(p *api.Packet) { p.Src = 8 },
			func(p *api.Packet) { p.Src = math.MaxInt },
			func(p *api.Packet) { p.Dst = -1 },
			func(p *api.Packet) { p.Dst = 8 },
			func(p *api.Packet) { p.Dst = math.MinInt },
			func(p *api.Packet) { p.Src = p.Dst },
			func(p *api.Packet) { p.Src, p.Dst = 0, 0 },
			func(p *api.Packet) { p.Src, p.Dst = 7, 7 },
			func(p *api.Packet) { p.Conn = 0 },
			func(p *api.Packet) { p.Conn = -1 },
			func(p *api.Packet) { p.Conn = 1<<30 + 1 },
			func(p *api.Packet) { p.Conn += 1 << 32 },
			func(p *api.Packet) { setOwn(p, -1) },
			func(p *api.Packet) { setOwn(p, 1<<60+1) },
			func(p *api.Packet) { setOwn(p, math.MinInt) },
			func(p *api.Packet) { setOwn(p, math.MaxInt) },
			// The number that the kind does not have.
			func(p *api.Packet) { p.Seq, p.Pull = 1, 1 },
			func(p *api.Packet) { p.Seq, p.Pull = p.Pull, p.Seq+1 },
			func(p *api.Packet) { p.Seq, p.Pull = -1, -1 },
			func(p *api.Packet) { p.Flags = -1 },
			func(p *api.Packet) { p.Flags -= 64 },
			func(p *api.Packet) { p.Flags += 64 },
			func(p *api.Packet) { p.Flags += 256 },
			func(p *api.Packet) { p.Flags = math.MinInt },
			func(p *api.Packet) { p.Payload = noise(1025) },
			func(p *api.Packet) { p.Payload = noise(65536 + len(p.Payload)) },
		} {
			x := p
			change(&x)
			out = append(out, x)
		}
	}
	for _, p := range []api.Packet{ack(), nack(), pull()} {
		for flags := 1; flags < 64; flags++ {
			x := p
			x.Flags = flags
			out = append(out, x)
		}
		x := p
		x.Payload = []byte{0}
		out = append(out, x)
	}
	return append(out, invalidData()...)
}

// invalidData is data whose flags and payload do not go together.
func invalidData() []api.Packet {
	var out []api.Packet
	for flags := range 64 {
		if !slices.Contains(flagsWithPayload, flags) {
			out = append(out, data(flags, 1), data(flags, 1024))
		} else {
			out = append(out, data(flags, 1025))
		}
		if !slices.Contains(flagsWithout, flags) {
			out = append(out, data(flags, 0))
		}
	}
	return out
}

// equal tells whether two packets are, without the package's help.
func equal(a, b api.Packet) bool {
	if !bytes.Equal(a.Payload, b.Payload) {
		return false
	}
	return [8]int{int(a.Kind), a.Flags, a.Path, a.Src, a.Dst, a.Conn, a.Seq, a.Pull} ==
		[8]int{int(b.Kind), b.Flags, b.Path, b.Src, b.Dst, b.Conn, b.Seq, b.Pull}
}

// laid is a packet's encoding, laid byte by byte as the document tells it, for packets that may not be too.
func laid(p api.Packet) []byte {
	b := []byte{78, 90, 1, byte(p.Kind), byte(p.Flags), byte(p.Path), byte(p.Src), byte(p.Dst)}
	b = binary.BigEndian.AppendUint32(b, uint32(p.Conn))
	b = binary.BigEndian.AppendUint64(b, uint64(p.Seq))
	b = binary.BigEndian.AppendUint64(b, uint64(p.Pull))
	b = binary.BigEndian.AppendUint16(b, uint16(len(p.Payload)))
	b = append(b, 0, 0, 0, 0, 0, 0)
	return resum(append(b, p.Payload...))
}

// resum makes the checksum of bytes right.
func resum(b []byte) []byte {
	sum := adler32.Checksum(slices.Concat(b[:32], b[36:]))
	binary.BigEndian.PutUint32(b[32:], sum)
	return b
}

// with is a packet's encoding with other bytes at one place and a right checksum.
func with(p api.Packet, at int, l ...byte) []byte {
	b := laid(p)
	copy(b[at:], l)
	return resum(b)
}

// P3.1: Check.

func TestCheckOfPacketsThatMayBe(t *testing.T) {
	for _, p := range valid() {
		if e := wire.Check(p); e != api.OK {
			t.Errorf("%+v: %d", p, e)
		}
	}
}

func TestCheckOfPacketsThatMayNotBe(t *testing.T) {
	for _, p := range invalid() {
		if e := wire.Check(p); e != api.ErrWire {
			t.Errorf("%+v: %d", p, e)
		}
	}
}

func TestCheckOfAllFlags(t *testing.T) {
	for flags := -70; flags <= 300; flags++ {
		for _, n := range []int{0, 1, 2, 1024, 1025} {
			want := api.ErrWire
			if 1 <= n && n <= 1024 && slices.Contains(flagsWithPayload, flags) {
				want = api.OK
			}
			if n == 0 && slices.Contains(flagsWithout, flags) {
				want = api.OK
			}
			if e := wire.Check(data(flags, n)); e != want {
				t.Errorf("flags %d, %d bytes: %d, not %d", flags, n, e, want)
			}
		}
	}
}

// P3.1: Same.

func TestSameOfEqualPackets(t *testing.T) {
	for _, p := range append(valid(), invalid()...) {
		q := p
		q.Payload = bytes.Clone(p.Payload)
		if !wire.Same(p, q) || !wire.Same(q, p) || !wire.Same(p, p) {
			t.Errorf("%+v", p)
		}
	}
	p, q := ack(), ack()
	q.Payload = []byte{}
	if !wire.Same(p, q) || !wire.Same(q, p) {
		t.Error("nil and empty payloads")
	}
}

func TestSameOfPacketsWithADifference(t *testing.T) {
	for _, p := range []api.Packet{{}, data(3, 5), data(api.Trimmed, 0), ack(), nack(), pull()} {
		for i, change := range []func(p *api.Packet){
			func(p *api.Packet) { p.Kind++ },
			func(p *api.Packet) { p.Flags++ },
			func(p *api.Packet) { p.Path++ },
			func(p *api.Packet) { p.Src++ },
			func(p *api.Packet) { p.Dst++ },
			func(p *api.Packet) { p.Src, p.Dst = p.Dst, p.Src+9 },
			func(p *api.Packet) { p.Conn += 1 << 32 },
			func(p *api.Packet) { p.Seq++ },
			func(p *api.Packet) { p.Pull-- },
			func(p *api.Packet) { p.Payload = append(bytes.Clone(p.Payload), 0) },
			func(p *api.Packet) {
				p.Payload = append(bytes.Clone(p.Payload), 7)
				p.Payload[0] ^= 128
			},
		} {
			q := p
			change(&q)
			if wire.Same(p, q) || wire.Same(q, p) {
				t.Errorf("change %d of %+v", i, p)
			}
		}
	}
	p, q := data(3, 5), data(3, 5)
	for i := range p.Payload {
		q.Payload[i] ^= 1
		if wire.Same(p, q) {
			t.Errorf("byte %d of the payload", i)
		}
		q.Payload[i] ^= 1
	}
	q.Payload = q.Payload[:4]
	if wire.Same(p, q) || wire.Same(q, p) {
		t.Error("a payload that begins with the other one")
	}
}

// P3.1: Size.

func TestSizeOfPacketsThatMayBe(t *testing.T) {
	for _, c := range []struct {
		p    api.Packet
		want int
	}{
		{pull(), 36}, {ack(), 36}, {nack(), 36},
		{data(api.Fin, 0), 36}, {data(api.Trimmed, 0), 36}, {data(api.Trimmed+api.Bounced, 0), 36},
		{data(0, 1), 37}, {data(api.First+api.End, 5), 41}, {data(0, 1024), 1060},
	} {
		if got := wire.Size(c.p); got != c.want {
			t.Errorf("%+v: %d, not %d", c.p, got, c.want)
		}
	}
	for _, p := range valid() {
		b, _ := wire.Encode(p)
		if got := wire.Size(p); got != len(b) || got < api.Header || got > api.MaxPacket {
			t.Errorf("%+v: %d of %d bytes", p, got, len(b))
		}
	}
}

func TestSizeOfPacketsThatMayNotBe(t *testing.T) {
	for _, p := range invalid() {
		if got := wire.Size(p); got != 0 {
			t.Errorf("%+v: %d", p, got)
		}
	}
}

// P3.2: Encode.

func TestEncodeOfKnownPackets(t *testing.T) {
	for _, c := range []struct {
		p    api.Packet
		want []byte
	}{
		{
			api.Packet{Kind: api.Data, Flags: api.First + api.End, Path: 2, Src: 1, Dst: 3, Conn: 70000, Seq: 1 << 40, Payload: []byte("hello")},
			[]byte{
				78, 90, 1, 1, 3, 2, 1, 3, 0, 1, 17, 112,
				0, 0, 1, 0, 0, 0, 0, 0,
				0, 0, 0, 0, 0, 0, 0, 0,
				0, 5, 0, 0, 0x2d, 0x21, 0x03, 0x50,
				'h', 'e', 'l', 'l', 'o',
			},
		},
		{
			api.Packet{Kind: api.Ack, Path: 5, Src: 4, Dst: 6, Conn: 1 << 30, Seq: 0x0102030405060708},
			[]byte{
				78, 90, 1, 2, 0, 5, 4, 6, 64, 0, 0, 0,
				1, 2, 3, 4, 5, 6, 7, 8,
				0, 0, 0, 0, 0, 0, 0, 0,
				0, 0, 0, 0, 0x1e, 0xcb, 0x01, 0x1f,
			},
		},
		{
			api.Packet{Kind: api.Nack, Path: 7, Src: 7, Dst: 0, Conn: 1, Seq: 1 << 60},
			[]byte{
				78, 90, 1, 3, 0, 7, 7, 0, 0, 0, 0, 1,
				16, 0, 0, 0, 0, 0, 0, 0,
				0, 0, 0, 0, 0, 0, 0, 0,
				0, 0, 0, 0, 0x18, 0x03, 0x00, 0xcc,
			},
		},
		{
			api.Packet{Kind: api.Pull, Path: 0, Src: 0, Dst: 7, Conn: 0x01020304, Pull: 0x0807060504030201},
			[]byte{
				78, 90, 1, 4, 0, 0, 0, 7, 1, 2, 3, 4,
				0, 0, 0, 0, 0, 0, 0, 0,
				8, 7, 6, 5, 4, 3, 2, 1,
				0, 0, 0, 0, 0x18, 0x3f, 0x00, 0xe3,
			},
		},
		{
			api.Packet{Kind: api.Data, Flags: api.Fin + api.Urgent + api.Trimmed, Path: 1, Src: 2, Dst: 5, Conn: 255, Seq: 9},
			[]byte{
				78, 90, 1, 1, 44, 1, 2, 5, 0, 0, 0, 255,
				0, 0, 0, 0, 0, 0, 0, 9,
				0, 0, 0, 0, 0, 0, 0, 0,
				0, 0, 0, 0, 0x2f, 0xfd, 0x01, 0xe7,
			},
		},
	} {
		// Its checksum is made here once more, so that none above is wrong unseen.
		if !bytes.Equal(resum(bytes.Clone(c.want)), c.want) {
			t.Errorf("%+v: the test's checksum is %x", c.p, resum(bytes.Clone(c.want))[32:36])
		}
		if b, e := wire.Encode(c.p); e != api.OK || !bytes.Equal(b, c.want) {
			t.Errorf("%+v: %v, %d", c.p, b, e)
		}
	}
}

func TestEncodeIsAsDefined(t *testing.T) {
	for _, p := range valid() {
		if b, e := wire.Encode(p); e != api.OK || !bytes.Equal(b, laid(p)) {
			t.Errorf("%+v: %v, %d", p, b, e)
		}
	}
}

func TestEncodeRefusesPacketsThatMayNotBe(t *testing.T) {
	for _, p := range invalid() {
		if b, e := wire.Encode(p); e != api.ErrWire || len(b) != 0 {
			t.Errorf("%+v: %d bytes, %d", p, len(b), e)
		}
	}
}

// P3.2: Decode.

// expectRefused decodes what must be refused for this reason.
func expectRefused(t *testing.T, what string, b []byte, want api.Errno) {
	t.Helper()
	kept := bytes.Clone(b)
	p, e := wire.Decode(b)
	if e != want || !equal(p, api.Packet{}) {
		t.Errorf("%s: %+v, %d, not %d", what, p, e, want)
	}
	if !bytes.Equal(b, kept) {
		t.Errorf("%s: Decode wrote into its argument", what)
	}
}

func TestDecodeOfEncodedPackets(t *testing.T) {
	for _, p := range valid() {
		if q, e := wire.Decode(laid(p)); e != api.OK || !equal(p, q) {
			t.Errorf("%+v: %+v, %d", p, q, e)
		}
	}
}

func TestDecodeRefusesFewBytes(t *testing.T) {
	expectRefused(t, "nil", nil, api.ErrShort)
	for _, p := range []api.Packet{data(0, 5), pull()} {
		for n := range 36 {
			expectRefused(t, "a part of a header", laid(p)[:n], api.ErrShort)
		}
	}
	for n := range 36 {
		expectRefused(t, "few wrong bytes", bytes.Repeat([]byte{255}, n), api.ErrShort)
	}
}

func TestDecodeRefusesAWrongBeginning(t *testing.T) {
	for _, p := range []api.Packet{data(0, 5), pull()} {
		for at := range 3 {
			for x := range 256 {
				if byte(x) == laid(p)[at] {
					continue
				}
				expectRefused(t, "a right checksum", with(p, at, byte(x)), api.ErrWire)
				b := laid(p)
				b[at] = byte(x)
				expectRefused(t, "a wrong checksum", b, api.ErrWire)
			}
		}
	}
	expectRefused(t, "zeros", make([]byte, 36), api.ErrWire)
	expectRefused(t, "many zeros", make([]byte, 1<<20), api.ErrWire)
}

func TestDecodeRefusesAWrongLength(t *testing.T) {
	b := laid(data(0, 5))
	for n := 36; n < len(b); n++ {
		expectRefused(t, "a part of the payload", b[:n], api.ErrWire)
		expectRefused(t, "a part of the payload, with its checksum", resum(bytes.Clone(b[:n])), api.ErrWire)
	}
	for n := 1; n <= 3; n++ {
		long := slices.Concat(b, make([]byte, n))
		expectRefused(t, "more behind it", long, api.ErrWire)
		expectRefused(t, "more behind it, with its checksum", resum(long), api.ErrWire)
	}
	expectRefused(t, "more behind a header", resum(slices.Concat(laid(pull()), []byte{0})), api.ErrWire)
	expectRefused(t, "one fewer stated", with(data(0, 5), 28, 0, 4), api.ErrWire)
	expectRefused(t, "one more stated", with(data(0, 5), 28, 0, 6), api.ErrWire)
	expectRefused(t, "261 stated", with(data(0, 5), 28, 1, 5), api.ErrWire)
	expectRefused(t, "one stated, of none", with(pull(), 28, 0, 1), api.ErrWire)
	// 65536 bytes more than two bytes can state.
	b = laid(data(0, 65536+5))
	expectRefused(t, "too long to be stated", b, api.ErrWire)
	b[32]++
	expectRefused(t, "too long to be stated, with a wrong checksum", b, api.ErrWire)
	// A wrong length comes before a wrong checksum and before a packet that may not be.
	b = laid(data(0, 5))
	b[32]++
	expectRefused(t, "a wrong checksum too", b[:40], api.ErrWire)
	expectRefused(t, "a wrong checksum and no such kind too", append(b, 0), api.ErrWire)
}

func TestDecodeRefusesAWrongChecksum(t *testing.T) {
	for _, p := range []api.Packet{data(0, 5), pull(), data(api.Trimmed, 0)} {
		for at := 3; at < len(laid(p)); at++ {
			if at == 28 || at == 29 {
				continue
			}
			for x := 1; x < 256; x++ {
				b := laid(p)
				b[at] ^= byte(x)
				expectRefused(t, "one byte changed", b, api.ErrSum)
			}
		}
	}
	// A wrong checksum comes before a packet that may not be.
	for _, p := range []api.Packet{{Kind: 9}, {Kind: api.Data, Conn: 1, Payload: noise(2000)}, {}} {
		b := laid(p)
		b[35]++
		expectRefused(t, "no such packet too", b, api.ErrSum)
	}
	// The sum is of the 32 bytes and the payload, not of the checksum's own place.
	b := laid(data(0, 5))
	binary.BigEndian.PutUint32(b[32:], 0)
	binary.BigEndian.PutUint32(b[32:], adler32.Checksum(b))
	expectRefused(t, "the sum of all bytes", b, api.ErrSum)
}

func TestDecodeRefusesWhatNoPacketHas(t *testing.T) {
	for _, c := range []struct {
		what string
		b    []byte
	}{
		{"kind 0", with(pull(), 3, 0)},
		{"kind 5", with(pull(), 3, 5)},
		{"kind 255", with(pull(), 3, 255)},
		{"data without a payload", with(ack(), 3, 1)},
		{"a Nack with Pull", with(pull(), 3, 3)},
		{"a Pull with Seq", with(ack(), 3, 4)},
		{"flags of an Ack", with(ack(), 4, 1)},
		{"Fin of a Pull", with(pull(), 4, 4)},
		{"flag 64", with(data(0, 5), 4, 64)},
		{"flag 128", with(data(api.Trimmed, 0), 4, 128+8)},
		{"Fin with End", with(data(api.Fin, 0), 4, 6)},
		{"Fin with End, trimmed", with(data(api.Fin, 0), 4, 14)},
		{"Bounced alone", with(data(0, 5), 4, 16)},
		{"Fin and Bounced", with(data(api.Fin, 0), 4, 20)},
		{"Fin with a payload", with(data(0, 5), 4, 4)},
		{"Trimmed with a payload", with(data(0, 5), 4, 8)},
		{"path 8", with(pull(), 5, 8)},
		{"path 255", with(data(0, 5), 5, 255)},
		{"src 8", with(pull(), 6, 8)},
		{"src 255", with(pull(), 6, 255)},
		{"dst 8", with(pull(), 7, 8)},
		{"dst 255", with(pull(), 7, 255)},
		{"src and dst alike", with(pull(), 6, 7)},
		{"conn 0", with(pull(), 8, 0, 0, 0, 0)},
		{"conn 2^30 + 1", with(pull(), 8, 64, 0, 0, 1)},
		{"conn 2^32 - 1", with(pull(), 8, 255, 255, 255, 255)},
		{"seq 2^60 + 1", with(data(0, 5), 12, 16, 0, 0, 0, 0, 0, 0, 1)},
		{"seq 2^61", with(data(0, 5), 12, 32, 0, 0, 0, 0, 0, 0, 0)},
		{"seq 2^63", with(ack(), 12, 128, 0, 0, 0, 0, 0, 0, 0)},
		{"seq 2^64 - 1", with(ack(), 12, 255, 255, 255, 255, 255, 255, 255, 255)},
		{"seq of a Pull", with(pull(), 19, 1)},
		{"seq of a Pull, 2^63", with(pull(), 12, 128)},
		{"pull 2^60 + 1", with(pull(), 20, 16, 0, 0, 0, 0, 0, 0, 1)},
		{"pull 2^63", with(pull(), 20, 128, 0, 0, 0, 0, 0, 0, 0)},
		{"pull of an Ack", with(ack(), 27, 1)},
		{"pull of data", with(data(0, 5), 20, 1)},
		{"no zero in front", with(pull(), 30, 1)},
		{"no zero behind", with(pull(), 31, 1)},
		{"no zeros of data", with(data(0, 5), 30, 255, 255)},
	} {
		expectRefused(t, c.what, c.b, api.ErrWire)
	}
	for _, n := range []int{1025, 1026, 2048, 65535} {
		expectRefused(t, "a long payload", laid(data(0, n)), api.ErrWire)
	}
	for _, p := range []api.Packet{ack(), nack(), pull(), data(api.Fin, 0)} {
		p.Payload = noise(1)
		expectRefused(t, "a payload", laid(p), api.ErrWire)
	}
	expectRefused(t, "no payload", laid(data(0, 0)), api.ErrWire)
}

// P3.3: Trim.

func TestTrim(t *testing.T) {
	for _, flags := range []int{0, 1, 2, 3, 32, 33, 34, 35} {
		for _, n := range []int{1, 5, 1024} {
			p := data(flags, n)
			want := p
			want.Flags, want.Payload = flags+8, nil
			if q, ok := wire.Trim(p); !ok || !equal(q, want) {
				t.Errorf("%+v: %+v, %v", p, q, ok)
			}
			if !equal(p, data(flags, n)) {
				t.Errorf("Trim changed its argument: %+v", p)
			}
		}
	}
	// A Fin has no payload that could be cut off, but is trimmed all the same.
	for _, flags := range []int{4, 5, 36, 37} {
		p := data(flags, 0)
		want := p
		want.Flags = flags + 8
		if q, ok := wire.Trim(p); !ok || !equal(q, want) {
			t.Errorf("%+v: %+v, %v", p, q, ok)
		}
	}
}

func TestTrimLeavesAllElse(t *testing.T) {
	l := append(invalid(), ack(), nack(), pull())
	for _, flags := range flagsWithout {
		if flags&api.Trimmed != 0 {
			l = append(l, data(flags, 0))
		}
	}
	for _, p := range l {
		if q, ok := wire.Trim(p); ok || !equal(p, q) {
			t.Errorf("%+v: %+v, %v", p, q, ok)
		}
	}
}

// P3.3: Bounce.

func TestBounce(t *testing.T) {
	for _, flags := range []int{8, 9, 10, 11, 12, 13, 40, 41, 42, 43, 44, 45} {
		p := data(flags, 0)
		want := p
		want.Flags, want.Src, want.Dst = flags+16, p.Dst, p.Src
		if q, ok := wire.Bounce(p); !ok || !equal(q, want) {
			t.Errorf("%+v: %+v, %v", p, q, ok)
		}
		if !equal(p, data(flags, 0)) {
			t.Errorf("Bounce changed its argument: %+v", p)
		}
	}
}

func TestBounceLeavesAllElse(t *testing.T) {
	l := append(invalid(), ack(), nack(), pull())
	for _, flags := range flagsWithPayload {
		l = append(l, data(flags, 5))
	}
	for _, flags := range flagsWithout {
		if flags&api.Trimmed == 0 || flags&api.Bounced != 0 {
			l = append(l, data(flags, 0))
		}
	}
	for _, p := range l {
		if q, ok := wire.Bounce(p); ok || !equal(p, q) {
			t.Errorf("%+v: %+v, %v", p, q, ok)
		}
	}
}

// General rule 4: arguments are neither modified nor kept, and results share nothing.

func TestEncodeSharesNothing(t *testing.T) {
	p := data(0, 5)
	b, _ := wire.Encode(p)
	other, _ := wire.Encode(p)
	want := bytes.Clone(b)
	clear(p.Payload)
	clear(other)
	if !bytes.Equal(b, want) {
		t.Error("a result changed with an argument or another result:", b)
	}
	clear(b)
	p = data(0, 5)
	b, _ = wire.Encode(p)
	clear(b)
	if !equal(p, data(0, 5)) {
		t.Error("the argument changed with the result:", p)
	}
}

func TestDecodeSharesNothing(t *testing.T) {
	b := laid(data(0, 5))
	p, _ := wire.Decode(b)
	q, _ := wire.Decode(b)
	clear(b)
	clear(q.Payload)
	if !equal(p, data(0, 5)) {
		t.Error("a packet changed with its bytes or another packet:", p)
	}
	b = laid(data(0, 5))
	p, _ = wire.Decode(b)
	clear(p.Payload)
	if !bytes.Equal(b, laid(data(0, 5))) {
		t.Error("the bytes changed with the packet:", b)
	}
}

func TestTrimAndBounceShareNothing(t *testing.T) {
	for _, p := range []api.Packet{data(64, 5), {Payload: noise(5)}, data(api.Trimmed, 5), data(0, 1025)} {
		n := len(p.Payload)
		for _, call := range []func(api.Packet) (api.Packet, bool){wire.Trim, wire.Bounce} {
			q, _ := call(p)
			clear(q.Payload)
			if !bytes.Equal(p.Payload, noise(n)) {
				t.Errorf("the argument changed with the result: %+v", p)
			}
		}
	}
	// A payload without bytes may still have room for some.
	for _, p := range []api.Packet{data(api.Fin, 0), data(api.Trimmed, 0), data(api.Trimmed+api.Bounced, 0), ack()} {
		room := noise(5)
		p.Payload = room[:0]
		for _, call := range []func(api.Packet) (api.Packet, bool){wire.Trim, wire.Bounce} {
			q, _ := call(p)
			_ = append(q.Payload, 1, 2, 3)
			if !bytes.Equal(room, noise(5)) {
				t.Errorf("%+v: the argument's room is the result's", p)
			}
		}
	}
}

// P3.4: round trips.

func TestDecodeOfEncodeIsThePacket(t *testing.T) {
	for _, p := range valid() {
		b, e := wire.Encode(p)
		if e != api.OK {
			t.Errorf("%+v: %d", p, e)
		}
		if q, e := wire.Decode(b); e != api.OK || !equal(p, q) || !wire.Same(p, q) {
			t.Errorf("%+v: %+v, %d", p, q, e)
		}
	}
}

// FuzzDecode: what is decoded is encoded as the same bytes, and all else is refused with a zero packet.
func FuzzDecode(f *testing.F) {
	for _, p := range append(valid(), invalid()...) {
		f.Add(laid(p))
	}
	f.Add([]byte{})
	f.Add(laid(pull())[:35])
	f.Fuzz(func(t *testing.T, b []byte) {
		expectAgrees(t, b)
		if len(b) >= 36 {
			expectAgrees(t, resum(bytes.Clone(b)))
		}
	})
}

// expectAgrees holds Decode of any bytes against Check and Encode.
func expectAgrees(t *testing.T, b []byte) {
	t.Helper()
	p, e := wire.Decode(b)
	if e != api.OK {
		if !equal(p, api.Packet{}) {
			t.Errorf("%v: %+v beside %d", b, p, e)
		}
		return
	}
	if wire.Check(p) != api.OK || wire.Size(p) != len(b) {
		t.Errorf("%v: %+v may not be", b, p)
	}
	if again, e := wire.Encode(p); e != api.OK || !bytes.Equal(again, b) {
		t.Errorf("%v became %v, %d", b, again, e)
	}
}

func TestWhatIsDecodedIsEncodedAsTheSameBytes(t *testing.T) {
	decoded := 0
	for _, p := range []api.Packet{data(0, 5), data(api.Fin, 0), data(api.Trimmed, 0), ack(), nack(), pull()} {
		// Every byte of a header with every value, and a checksum that is right.
		for at := range 32 {
			for x := range 256 {
				b := with(p, at, byte(x))
				expectAgrees(t, b)
				if _, e := wire.Decode(b); e == api.OK {
					decoded++
				}
			}
		}
	}
	if decoded < 1000 {
		t.Error("hardly anything was decoded:", decoded)
	}
}

// P3.5: changes.

func TestEncodingWithOneByteChangedIsNone(t *testing.T) {
	for _, p := range []api.Packet{data(0, 1), data(api.First+api.End, 5), data(0, 1024), data(api.Fin, 0), data(api.Trimmed, 0), ack(), nack(), pull()} {
		b, _ := wire.Encode(p)
		for at, old := range b {
			for x := range 256 {
				b[at] = byte(x)
				if _, e := wire.Decode(b); (e == api.OK) != (b[at] == old) {
					t.Fatalf("%+v with %d at %d: %d", p, x, at, e)
				}
			}
			b[at] = old
		}
	}
}

// P3.6: what was trimmed or bounced.

func TestWhatWasTrimmedOrBouncedIsAHeader(t *testing.T) {
	trimmed, bounced := 0, 0
	for _, p := range valid() {
		q, ok := wire.Trim(p)
		if ok {
			trimmed++
			expectHeader(t, q)
		}
		// Also what was trimmed before.
		if x, ok := wire.Bounce(q); ok {
			bounced++
			expectHeader(t, x)
			if _, ok := wire.Bounce(x); ok {
				t.Errorf("%+v bounces again", x)
			}
		}
	}
	if trimmed < 20 || bounced < trimmed {
		t.Error(trimmed, bounced)
	}
}

func expectHeader(t *testing.T, p api.Packet) {
	t.Helper()
	if wire.Check(p) != api.OK || wire.Size(p) != 36 || len(p.Payload) != 0 {
		t.Errorf("%+v", p)
	}
	if b, e := wire.Encode(p); e != api.OK || len(b) != 36 {
		t.Errorf("%+v: %d bytes, %d", p, len(b), e)
	}
	if _, ok := wire.Trim(p); ok {
		t.Errorf("%+v is trimmed again", p)
	}
}
