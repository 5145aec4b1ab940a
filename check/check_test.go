package check_test

import (
	"bytes"
	"hash/adler32"
	"slices"
	"testing"

	"nozzle/check"
)

// noise are n bytes of which no two neighbours are likely to be alike.
func noise(n int) []byte {
	out := make([]byte, n)
	x := uint32(12345)
	for i := range out {
		x = x*1664525 + 1013904223
		out[i] = byte(x >> 24)
	}
	return out
}

// samples are bytes of many lengths and sorts, those at which sums overflow among them.
func samples() [][]byte {
	out := [][]byte{nil, {}, {0}, {1}, {255}, {0, 0}, {255, 255}, {0, 0, 0}, {255, 255, 255}, []byte("Wikipedia")}
	for _, n := range []int{255, 256, 257, 5551, 5552, 5553, 65519, 65520, 65521, 65522, 65535, 65536, 65537, 131072, 200001, 1 << 20} {
		out = append(out, noise(n), bytes.Repeat([]byte{255}, n), make([]byte, n))
	}
	return out
}

// aIsZero are bytes whose sum is 65520, so that a is the modulus, and b 2048 above a multiple of it.
func aIsZero() []byte { return append(bytes.Repeat([]byte{255}, 256), 240) }

// bothAreZero has as many zeros ahead as b lacks of the modulus.
func bothAreZero() []byte { return append(make([]byte, 65521-2048), aIsZero()...) }

// slowAdler goes on from two sums exactly as the document defines it, byte by byte.
func slowAdler(a, b uint32, l []byte) uint32 {
	for _, x := range l {
		a = (a + uint32(x)) % 65521
		b = (b + a) % 65521
	}
	return 65536*b + a
}

// slowOnes adds pair by pair, and carries at once.
func slowOnes(l []byte) uint16 {
	sum := 0
	for i := 0; i < len(l); i += 2 {
		sum += 256 * int(l[i])
		if i+1 < len(l) {
			sum += int(l[i+1])
		}
		if sum > 65535 {
			sum = sum%65536 + sum/65536
		}
	}
	return uint16(sum)
}

// inPieces divides bytes into pieces of these lengths, the last one of what is left.
func inPieces(l []byte, lengths ...int) [][]byte {
	var out [][]byte
	for _, n := range lengths {
		n = min(n, len(l))
		out = append(out, l[:n])
		l = l[n:]
	}
	return append(out, l)
}

// P2.1: Adler and Next.

func TestAdlerOfKnownBytes(t *testing.T) {
	for _, c := range []struct {
		b    []byte
		want uint32
	}{
		{nil, 1},
		{[]byte{}, 1},
		{[]byte{0}, 0x00010001},
		{[]byte{1}, 0x00020002},
		{[]byte{255}, 0x01000100},
		{[]byte{0, 0, 0}, 0x00030001},
		{[]byte("a"), 0x00620062},
		{[]byte("abc"), 0x024d0127},
		{[]byte("Wikipedia"), 300286872},
		{aIsZero(), 0x08000000},
		{bothAreZero(), 0},
	} {
		if got := check.Adler(c.b); got != c.want {
			t.Errorf("Adler of %d bytes: %#x, not %#x", len(c.b), got, c.want)
		}
	}
}

func TestAdlerIsAsDefined(t *testing.T) {
	for _, b := range samples() {
		got := check.Adler(b)
		if want := slowAdler(1, 0, b); got != want {
			t.Errorf("%d bytes: %#x, not %#x", len(b), got, want)
		}
		if want := adler32.Checksum(b); got != want {
			t.Errorf("%d bytes: %#x, not %#x, which the library has", len(b), got, want)
		}
	}
}

func TestAdlerOfNoParts(t *testing.T) {
	if got := check.Adler(); got != 1 {
		t.Error(got)
	}
	if got := check.Adler(nil, []byte{}, nil); got != 1 {
		t.Error(got)
	}
}

func TestAdlerOfPartsIsThatOfAllTogether(t *testing.T) {
	if got := check.Adler([]byte("Wiki"), nil, []byte("p"), []byte("edia"), nil); got != 0x11e60398 {
		t.Errorf("%#x", got)
	}
	if check.Adler([]byte("edia"), []byte("Wikip")) == 0x11e60398 {
		t.Error("the order of parts does not count")
	}
}

func TestNextGoesOn(t *testing.T) {
	for _, b := range samples() {
		for _, at := range []int{0, 1, len(b) / 3, len(b)} {
			at = min(at, len(b))
			if got, want := check.Next(check.Adler(b[:at]), b[at:]), check.Adler(b); got != want {
				t.Errorf("%d bytes, from %d: %#x, not %#x", len(b), at, got, want)
			}
		}
	}
}

func TestNextReducesBothSums(t *testing.T) {
	for _, c := range []struct {
		sum  uint32
		b    []byte
		want uint32
	}{
		{0, nil, 0},
		{1, nil, 1},
		{0, []byte{0, 0}, 0},
		{0, []byte{1, 0}, 0x00020001},
		{0x0000fff0, nil, 0x0000fff0},
		{0x0000fff1, nil, 0},
		{0xfff00000, nil, 0xfff00000},
		{0xfff10000, nil, 0},
		{0xffffffff, nil, 0x000e000e},
		{0xffffffff, []byte{}, 0x000e000e},
		{0xffffffff, []byte{2}, 0x001e0010},
		{0xfff0fff0, []byte{1}, 0xfff00000},
		{0xfff0fff0, []byte{2}, 0x00000001},
	} {
		if got := check.Next(c.sum, c.b); got != c.want {
			t.Errorf("Next(%#x, %v) = %#x, not %#x", c.sum, c.b, got, c.want)
		}
	}
}

func TestNextOfAnySumIsAsDefined(t *testing.T) {
	for _, sum := range []uint32{0, 1, 0xfff0, 0xfff1, 0xffff, 0x10000, 0xfff00000, 0xfff1fff1, 0xffff0000, 0xffffffff, 0x11e60398} {
		for _, b := range [][]byte{nil, {7}, noise(100), bytes.Repeat([]byte{255}, 200001)} {
			want := slowAdler(sum%65536%65521, sum/65536%65521, b)
			if got := check.Next(sum, b); got != want {
				t.Errorf("Next(%#x, %d bytes) = %#x, not %#x", sum, len(b), got, want)
			}
		}
	}
}

// P2.2: Ones.

func TestOnesOfKnownBytes(t *testing.T) {
	for _, c := range []struct {
		parts [][]byte
		want  uint16
	}{
		{nil, 0},
		{[][]byte{nil, {}}, 0},
		{[][]byte{{0, 0, 0}}, 0},
		{[][]byte{{1}}, 0x0100},
		{[][]byte{{1, 2}}, 0x0102},
		{[][]byte{{1, 2, 3}}, 0x0402},
		{[][]byte{{0xff, 0xff}}, 0xffff},
		{[][]byte{{0xff, 0xff, 0, 0}}, 0xffff},
		{[][]byte{{0xff, 0xff, 0, 1}}, 1},
		{[][]byte{{0xff, 0xff, 0xff, 0xff}}, 0xffff},
		{[][]byte{{0xff, 0xfe, 0, 1}}, 0xffff},
		{[][]byte{{0x80, 0, 0x80, 0}}, 1},
		{[][]byte{{0xff, 0xff, 1}}, 0x0100},
		// A pair goes on in the next part, also over parts without bytes.
		{[][]byte{{1}, {2}}, 0x0102},
		{[][]byte{{1}, nil, {}, {2, 3}, {4}}, 0x0406},
		{[][]byte{{1, 2, 3}, {4, 5}, {6}}, 0x090c},
		{[][]byte{{1, 2, 3}, nil}, 0x0402},
	} {
		if got := check.Ones(c.parts...); got != c.want {
			t.Errorf("Ones(%v) = %#x, not %#x", c.parts, got, c.want)
		}
	}
}

func TestOnesIsAsDefined(t *testing.T) {
	for _, b := range samples() {
		want := slowOnes(b)
		if got := check.Ones(b); got != want {
			t.Errorf("%d bytes: %#x, not %#x", len(b), got, want)
		}
		for _, lengths := range [][]int{{0}, {1}, {1, 1, 1}, {2, 3, 5, 7}, {255, 0, 256}, {65535, 1}, {65536, 65536}} {
			if got := check.Ones(inPieces(b, lengths...)...); got != want {
				t.Errorf("%d bytes in pieces of %v: %#x, not %#x", len(b), lengths, got, want)
			}
		}
	}
}

// P2.2: Seal and Sealed.

func TestSealOfKnownBytes(t *testing.T) {
	for _, c := range []struct{ b, want []byte }{
		{nil, []byte{0xff, 0xff}},
		{[]byte{}, []byte{0xff, 0xff}},
		{[]byte{0}, []byte{0, 0, 0xff, 0xff}},
		{[]byte{1}, []byte{1, 0, 0xfe, 0xff}},
		{[]byte{1, 2}, []byte{1, 2, 0xfe, 0xfd}},
		{[]byte{0xff, 0xff}, []byte{0xff, 0xff, 0, 0}},
		{[]byte{0xff, 0xff, 0, 1}, []byte{0xff, 0xff, 0, 1, 0xff, 0xfe}},
		{[]byte{0x45, 0, 3}, []byte{0x45, 0, 3, 0, 0xb7, 0xff}},
	} {
		if got := check.Seal(c.b); !bytes.Equal(got, c.want) {
			t.Errorf("Seal(%v) = %v, not %v", c.b, got, c.want)
		}
	}
}

func TestSealSharesNothing(t *testing.T) {
	for have := range 6 {
		room := []byte{1, 2, 3, 4, 5, 6, 7, 8, 9}
		b := room[:have]
		one := check.Seal(b)
		two := check.Seal(b)
		if !bytes.Equal(room, []byte{1, 2, 3, 4, 5, 6, 7, 8, 9}) {
			t.Errorf("%d bytes: Seal wrote into its argument: %v", have, room)
		}
		kept := bytes.Clone(one)
		clear(room)
		clear(two)
		if !bytes.Equal(one, kept) {
			t.Errorf("%d bytes: a result changed with another slice: %v", have, one)
		}
	}
}

func TestSealedOfKnownBytes(t *testing.T) {
	for _, c := range []struct {
		b    []byte
		want bool
	}{
		{nil, false},
		{[]byte{}, false},
		{[]byte{0xff}, false},
		{[]byte{0, 0}, false},
		{[]byte{0xff, 0xfe}, false},
		{[]byte{0xff, 0xff}, true},
		{[]byte{0xff, 0xff, 0}, false},
		{[]byte{0, 0xff, 0xff}, false},
		{[]byte{0, 0, 0, 0}, false},
		{[]byte{0xff, 0xff, 0, 0}, true},
		{[]byte{0xff, 0xff, 0, 1}, false},
		{[]byte{0x12, 0x34, 0xed, 0xcb}, true},
		{[]byte{0x12, 0x34, 0xcb, 0xed}, false},
		{[]byte{0x12, 0x34, 0xed, 0xcb, 0}, false},
	} {
		if got := check.Sealed(c.b); got != c.want {
			t.Errorf("Sealed(%v) = %v", c.b, got)
		}
	}
}

// P2.3: Sum.

func TestSumOfWhatWasWritten(t *testing.T) {
	s := check.New()
	if s.Sum() != 1 || s.Len() != 0 {
		t.Error("without bytes:", s.Sum(), s.Len())
	}
	if n := s.Write(nil); n != 0 || s.Sum() != 1 || s.Len() != 0 {
		t.Error("nothing written:", n, s.Sum(), s.Len())
	}
	if n := s.Write([]byte("Wiki")); n != 4 || s.Sum() != check.Adler([]byte("Wiki")) || s.Len() != 4 {
		t.Error("four bytes:", n, s.Sum(), s.Len())
	}
	if n := s.Write([]byte("pedia")); n != 5 || s.Sum() != 300286872 || s.Len() != 9 {
		t.Error("nine bytes:", n, s.Sum(), s.Len())
	}
	if s.Sum() != 300286872 || s.Len() != 9 {
		t.Error("asked again:", s.Sum(), s.Len())
	}
}

func TestSumIsAsDefined(t *testing.T) {
	for _, b := range samples() {
		s := check.New()
		for _, part := range inPieces(b, 1, 0, 65536, 7) {
			if n := s.Write(part); n != len(part) {
				t.Errorf("Write of %d bytes = %d", len(part), n)
			}
		}
		if s.Sum() != slowAdler(1, 0, b) || s.Len() != len(b) {
			t.Errorf("%d bytes: %#x, %d", len(b), s.Sum(), s.Len())
		}
	}
}

func TestSumThatIsZeroGoesOn(t *testing.T) {
	s := check.New()
	s.Write(bothAreZero())
	if s.Sum() != 0 || s.Len() != len(bothAreZero()) {
		t.Error(s.Sum(), s.Len())
	}
	fork := s.Fork()
	for _, x := range []*check.Sum{s, fork} {
		if n := x.Write([]byte{7}); n != 1 || x.Sum() != 0x00070007 || x.Len() != len(bothAreZero())+1 {
			t.Error(n, x.Sum(), x.Len())
		}
	}
}

func TestForkGoesItsOwnWay(t *testing.T) {
	s := check.New()
	s.Write([]byte("Wiki"))
	fork := s.Fork()
	if fork.Sum() != s.Sum() || fork.Len() != 4 {
		t.Error("a fork begins where its origin is:", fork.Sum(), fork.Len())
	}
	fork.Write([]byte("pedia"))
	if s.Sum() != check.Adler([]byte("Wiki")) || s.Len() != 4 {
		t.Error("the origin changed with its fork:", s.Sum(), s.Len())
	}
	s.Write([]byte("!"))
	if fork.Sum() != 300286872 || fork.Len() != 9 {
		t.Error("the fork changed with its origin:", fork.Sum(), fork.Len())
	}
	third := fork.Fork()
	if third.Write([]byte{1}) != 1 || third.Len() != 10 || fork.Len() != 9 {
		t.Error("a fork of a fork:", third.Len(), fork.Len())
	}
}

func TestSumThatNobodyMade(t *testing.T) {
	for _, s := range []*check.Sum{nil, {}, new(check.Sum)} {
		for range 2 {
			if n := s.Write([]byte{1, 2}); n != 0 {
				t.Error("Write:", n)
			}
			if s.Sum() != 0 || s.Len() != 0 || s.Fork() != nil {
				t.Error(s.Sum(), s.Len(), s.Fork())
			}
		}
	}
}

func TestSumKeepsNothingOfItsArgument(t *testing.T) {
	b := []byte("Wikipedia")
	s := check.New()
	s.Write(b)
	clear(b)
	if s.Sum() != 300286872 {
		t.Error(s.Sum())
	}
}

// General rule 4: arguments are not modified.

func TestArgumentsAreNotModified(t *testing.T) {
	b := []byte{1, 2, 3, 4, 5}
	kept := bytes.Clone(b)
	check.Adler(b[:2], b[2:])
	check.Next(5, b)
	check.Ones(b[:1], b[1:])
	check.Seal(b)
	check.Sealed(b[:4])
	check.New().Write(b)
	if !bytes.Equal(b, kept) {
		t.Error(b)
	}
}

// P2.4: pieces.

func TestAdlerDoesNotDependOnPieces(t *testing.T) {
	for _, b := range samples() {
		want := check.Adler(b)
		for _, lengths := range [][]int{{0, 0}, {1}, {1, 1, 1}, {2, 3, 5, 7}, {5552, 5552}, {65535, 1}, {65536, 65537}} {
			pieces := inPieces(b, lengths...)
			next := uint32(1)
			s := check.New()
			for _, piece := range pieces {
				next = check.Next(next, piece)
				s.Write(piece)
			}
			if got := check.Adler(pieces...); got != want || next != want || s.Sum() != want {
				t.Errorf("%d bytes in pieces of %v: %#x, %#x, %#x, not %#x", len(b), lengths, got, next, s.Sum(), want)
			}
		}
	}
	b := noise(100)
	if got := check.Adler(slices.Collect(slices.Chunk(b, 1))...); got != check.Adler(b) {
		t.Errorf("byte by byte: %#x", got)
	}
}

// P2.5: changes.

func TestChangeOfAByteChangesAdler(t *testing.T) {
	for _, b := range [][]byte{{0}, {255}, []byte("Wikipedia"), noise(300)} {
		was := check.Adler(b)
		for i, old := range b {
			for x := range 256 {
				b[i] = byte(x)
				if (check.Adler(b) == was) != (b[i] == old) {
					t.Errorf("%d bytes, %d at %d for %d: %#x", len(b), x, i, old, check.Adler(b))
				}
			}
			b[i] = old
		}
	}
}

// P2.6: seals.

func TestWhatWasSealedIsSealed(t *testing.T) {
	for _, b := range samples() {
		sealed := check.Seal(b)
		if !check.Sealed(sealed) {
			t.Errorf("%d bytes are not sealed", len(b))
		}
		if len(sealed) != (len(b)+1)/2*2+2 || !bytes.Equal(sealed[:len(b)], b) {
			t.Errorf("%d bytes became %d", len(b), len(sealed))
		}
		if !check.Sealed(check.Seal(sealed)) {
			t.Errorf("%d bytes, sealed twice", len(b))
		}
	}
}

// isZero tells whether a 16-bit number is zero to a ones' complement sum.
func isZero(n int) bool { return n == 0 || n == 65535 }

func TestChangeOfTwoBytesBreaksTheSeal(t *testing.T) {
	for _, b := range [][]byte{{1}, {1, 2, 3}, {0xff, 0xff, 0, 0, 9, 9}} {
		sealed := check.Seal(b)
		for at := 0; at < len(sealed); at += 2 {
			changed := bytes.Clone(sealed)
			old := int(sealed[at])*256 + int(sealed[at+1])
			for n := range 65536 {
				changed[at], changed[at+1] = byte(n>>8), byte(n)
				if n != old && !(isZero(n) && isZero(old)) && check.Sealed(changed) {
					t.Fatalf("%v, sealed as %v: %v passes", b, sealed, changed)
				}
			}
		}
	}
}
