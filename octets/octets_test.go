package octets_test

import (
	"bytes"
	"math"
	"slices"
	"testing"

	"nozzle/octets"
)

// noSizes are numbers that are not sizes.
var noSizes = []int{0, 9, 10, 64, 256, math.MaxInt, -1, -8, math.MinInt}

// somewhat has eight different bytes, the highest bit among them.
const somewhat uint64 = 0xf1e2d3c4b5a69788

// P1.1: Put.

func TestPutAppendsTheLeastBytesMostSignificantFirst(t *testing.T) {
	for _, c := range []struct {
		b    []byte
		size int
		n    uint64
		want []byte
	}{
		{nil, 3, 258, []byte{0, 1, 2}},
		{[]byte{7, 8}, 3, 258, []byte{7, 8, 0, 1, 2}},
		{nil, 1, 0, []byte{0}},
		{nil, 1, 255, []byte{255}},
		{nil, 1, 256, []byte{0}},
		{nil, 1, somewhat, []byte{0x88}},
		{nil, 2, somewhat, []byte{0x97, 0x88}},
		{nil, 3, somewhat, []byte{0xa6, 0x97, 0x88}},
		{nil, 4, somewhat, []byte{0xb5, 0xa6, 0x97, 0x88}},
		{nil, 5, somewhat, []byte{0xc4, 0xb5, 0xa6, 0x97, 0x88}},
		{nil, 6, somewhat, []byte{0xd3, 0xc4, 0xb5, 0xa6, 0x97, 0x88}},
		{nil, 7, somewhat, []byte{0xe2, 0xd3, 0xc4, 0xb5, 0xa6, 0x97, 0x88}},
		{nil, 8, somewhat, []byte{0xf1, 0xe2, 0xd3, 0xc4, 0xb5, 0xa6, 0x97, 0x88}},
		{[]byte{}, 8, math.MaxUint64, []byte{255, 255, 255, 255, 255, 255, 255, 255}},
		{[]byte{9}, 8, 1, []byte{9, 0, 0, 0, 0, 0, 0, 0, 1}},
	} {
		if got := octets.Put(c.b, c.size, c.n); !bytes.Equal(got, c.want) {
			t.Errorf("Put(%v, %d, %#x) = %v, not %v", c.b, c.size, c.n, got, c.want)
		}
	}
}

func TestPutWithoutASizeAppendsNothing(t *testing.T) {
	for _, size := range noSizes {
		if got := octets.Put([]byte{7, 8}, size, 258); !bytes.Equal(got, []byte{7, 8}) {
			t.Errorf("size %d: %v", size, got)
		}
		if got := octets.Put(nil, size, 258); len(got) != 0 {
			t.Errorf("size %d, nil: %v", size, got)
		}
	}
}

func TestPutSharesNothing(t *testing.T) {
	for _, size := range []int{0, 2, 9} {
		room := []byte{1, 2, 3, 4, 5, 6}
		b := room[:2]
		one := octets.Put(b, size, 0x0a0b)
		two := octets.Put(b, size, 0x0c0d)
		kept := bytes.Clone(one)
		if !bytes.Equal(room, []byte{1, 2, 3, 4, 5, 6}) {
			t.Errorf("size %d: Put wrote into its argument: %v", size, room)
		}
		b[0] = 99
		two[1] = 98
		if !bytes.Equal(one, kept) {
			t.Errorf("size %d: a result changed with another slice: %v", size, one)
		}
		one[0] = 97
		if b[0] != 99 || two[0] != 1 {
			t.Errorf("size %d: another slice changed with a result: %v, %v", size, b, two)
		}
	}
}

// P1.1: Get.

func TestGetReadsANumberAndTellsTheRest(t *testing.T) {
	b := octets.Put([]byte{}, 8, somewhat)
	b = append(b, 5, 6)
	for size, want := range map[int]uint64{
		1: 0xf1, 2: 0xf1e2, 3: 0xf1e2d3, 4: 0xf1e2d3c4,
		5: 0xf1e2d3c4b5, 6: 0xf1e2d3c4b5a6, 7: 0xf1e2d3c4b5a697, 8: somewhat,
	} {
		n, rest, ok := octets.Get(b, size)
		if n != want || !ok || !bytes.Equal(rest, b[size:]) {
			t.Errorf("size %d: %#x, %v, %v", size, n, rest, ok)
		}
		n, rest, ok = octets.Get(b[:size], size)
		if n != want || !ok || len(rest) != 0 {
			t.Errorf("size %d, nothing behind it: %#x, %v, %v", size, n, rest, ok)
		}
	}
}

func TestGetRefusesBytesThatEndInsideANumber(t *testing.T) {
	all := []byte{1, 2, 3, 4, 5, 6, 7, 8}
	for size := 1; size <= 8; size++ {
		for have := 0; have < size; have++ {
			n, rest, ok := octets.Get(all[:have], size)
			if n != 0 || len(rest) != 0 || ok {
				t.Errorf("size %d of %d bytes: %d, %v, %v", size, have, n, rest, ok)
			}
		}
	}
	if n, rest, ok := octets.Get(nil, 1); n != 0 || len(rest) != 0 || ok {
		t.Error(n, rest, ok)
	}
}

func TestGetRefusesWhatIsNotASize(t *testing.T) {
	for _, size := range noSizes {
		n, rest, ok := octets.Get(make([]byte, 300), size)
		if n != 0 || len(rest) != 0 || ok {
			t.Errorf("size %d: %d, %v, %v", size, n, rest, ok)
		}
	}
}

func TestGetSharesNothing(t *testing.T) {
	b := []byte{1, 2, 3, 4}
	_, rest, _ := octets.Get(b, 2)
	b[2] = 99
	if !bytes.Equal(rest, []byte{3, 4}) {
		t.Error("the rest changed with the argument:", rest)
	}
	rest[1] = 98
	if !bytes.Equal(b, []byte{1, 2, 99, 4}) {
		t.Error("the argument changed with the rest:", b)
	}
}

// P1.2: Rows and Count.

func TestRowsYieldTheNumbersInOrder(t *testing.T) {
	b := []byte{1, 2, 3, 4, 5, 6, 7, 8, 9, 10}
	for _, c := range []struct {
		have, size int
		want       []uint64
	}{
		{0, 1, nil},
		{1, 1, []uint64{1}},
		{4, 1, []uint64{1, 2, 3, 4}},
		{1, 2, nil},
		{2, 2, []uint64{0x0102}},
		{6, 2, []uint64{0x0102, 0x0304, 0x0506}},
		{7, 2, []uint64{0x0102, 0x0304, 0x0506}},
		{8, 3, []uint64{0x010203, 0x040506}},
		{9, 3, []uint64{0x010203, 0x040506, 0x070809}},
		{10, 5, []uint64{0x0102030405, 0x060708090a}},
		{7, 8, nil},
		{8, 8, []uint64{0x0102030405060708}},
		{10, 8, []uint64{0x0102030405060708}},
	} {
		rows := octets.Rows(b[:c.have], c.size)
		if got := slices.Collect(rows); !slices.Equal(got, c.want) {
			t.Errorf("Rows(%v, %d): %#x", b[:c.have], c.size, got)
		}
		if got := slices.Collect(rows); !slices.Equal(got, c.want) {
			t.Errorf("Rows(%v, %d), ranged over again: %#x", b[:c.have], c.size, got)
		}
		if got := octets.Count(b[:c.have], c.size); got != len(c.want) {
			t.Errorf("Count(%v, %d) = %d", b[:c.have], c.size, got)
		}
	}
}

func TestRowsAndCountOfNoBytes(t *testing.T) {
	for size := 1; size <= 8; size++ {
		for n := range octets.Rows(nil, size) {
			t.Errorf("size %d: %d", size, n)
		}
		if got := octets.Count(nil, size); got != 0 {
			t.Errorf("size %d: %d", size, got)
		}
	}
}

func TestRowsAndCountOfWhatIsNotASize(t *testing.T) {
	b := make([]byte, 300)
	for _, size := range noSizes {
		for n := range octets.Rows(b, size) {
			t.Fatalf("size %d: %d", size, n)
		}
		if got := octets.Count(b, size); got != 0 {
			t.Errorf("size %d: %d", size, got)
		}
	}
}

func TestRowsEndWhereTheRangeIsLeft(t *testing.T) {
	for leave := 1; leave <= 4; leave++ {
		var got []uint64
		octets.Rows([]byte{0, 1, 0, 2, 0, 3, 0, 4, 0}, 2)(func(n uint64) bool {
			got = append(got, n)
			return len(got) < leave
		})
		if want := []uint64{1, 2, 3, 4}[:leave]; !slices.Equal(got, want) {
			t.Errorf("left at %d: %v", leave, got)
		}
	}
	last := uint64(0)
	for n := range octets.Rows([]byte{1, 2, 3, 4}, 1) {
		last = n
		if n == 2 {
			break
		}
	}
	if last != 2 {
		t.Error(last)
	}
}

func TestRowsShareNothing(t *testing.T) {
	b := []byte{0, 1, 0, 2}
	rows := octets.Rows(b, 2)
	b[1] = 99
	if got := slices.Collect(rows); !slices.Equal(got, []uint64{1, 2}) {
		t.Error("the numbers changed with the argument:", got)
	}
	for range rows {
		b[3] = 98
	}
	if got := slices.Collect(rows); !slices.Equal(got, []uint64{1, 2}) {
		t.Error("the numbers changed while they were ranged over:", got)
	}
}

// P1.3: Reader.

// expectBad reads all that there is to read of a reader that must be bad.
func expectBad(t *testing.T, what string, r *octets.Reader) {
	t.Helper()
	for range 2 {
		if !r.Bad() || r.Left() != 0 {
			t.Errorf("%s: bad %v, left %d", what, r.Bad(), r.Left())
		}
		for size := -1; size <= 9; size++ {
			if n := r.Number(size); n != 0 {
				t.Errorf("%s: Number(%d) = %d", what, size, n)
			}
			if b := r.Take(size); len(b) != 0 {
				t.Errorf("%s: Take(%d) = %v", what, size, b)
			}
		}
	}
}

func TestReaderReadsInOrder(t *testing.T) {
	r := octets.New([]byte{1, 2, 3, 4, 5, 6, 7, 8, 9, 10, 11, 12, 13, 14})
	if r.Left() != 14 || r.Bad() {
		t.Error(r.Left(), r.Bad())
	}
	if n := r.Number(8); n != 0x0102030405060708 || r.Left() != 6 {
		t.Error(n, r.Left())
	}
	if b := r.Take(0); len(b) != 0 || r.Left() != 6 || r.Bad() {
		t.Error(b, r.Left(), r.Bad())
	}
	if b := r.Take(3); !bytes.Equal(b, []byte{9, 10, 11}) || r.Left() != 3 {
		t.Error(b, r.Left())
	}
	if n := r.Number(1); n != 12 || r.Left() != 2 {
		t.Error(n, r.Left())
	}
	if b := r.Take(2); !bytes.Equal(b, []byte{13, 14}) || r.Left() != 0 || r.Bad() {
		t.Error(b, r.Left(), r.Bad())
	}
	if b := r.Take(0); len(b) != 0 || r.Bad() {
		t.Error("nothing was missing:", b, r.Bad())
	}
	if n := r.Number(1); n != 0 {
		t.Error(n)
	}
	expectBad(t, "behind the end", r)
}

func TestReaderOfNoBytesIsNotBad(t *testing.T) {
	for _, b := range [][]byte{nil, {}} {
		r := octets.New(b)
		if r == nil || r.Bad() || r.Left() != 0 || len(r.Take(0)) != 0 || r.Bad() {
			t.Error("bad at once")
		}
	}
}

func TestReaderIsBadWhenANumberIsMissing(t *testing.T) {
	for size := 1; size <= 8; size++ {
		for have := 0; have < size; have++ {
			r := octets.New([]byte{1, 2, 3, 4, 5, 6, 7, 8}[:have])
			if n := r.Number(size); n != 0 {
				t.Errorf("Number(%d) of %d bytes = %d", size, have, n)
			}
			expectBad(t, "inside a number", r)
		}
		r := octets.New([]byte{1, 2, 3, 4, 5, 6, 7, 8}[:size])
		if n := r.Number(size); n == 0 || r.Bad() || r.Left() != 0 {
			t.Errorf("Number(%d) of as many bytes = %d, bad %v, left %d", size, n, r.Bad(), r.Left())
		}
	}
}

func TestReaderIsBadAfterWhatIsNotASize(t *testing.T) {
	for _, size := range noSizes {
		r := octets.New(bytes.Repeat([]byte{7}, 300))
		if n := r.Number(size); n != 0 {
			t.Errorf("Number(%d) = %d", size, n)
		}
		expectBad(t, "not a size", r)
	}
}

func TestReaderIsBadWhenBytesAreMissing(t *testing.T) {
	for _, n := range []int{4, 5, math.MaxInt, -1, -3, math.MinInt} {
		r := octets.New([]byte{1, 2, 3})
		if b := r.Take(n); len(b) != 0 {
			t.Errorf("Take(%d) = %v", n, b)
		}
		expectBad(t, "bytes missing", r)
	}
}

func TestReaderThatNobodyMadeIsBad(t *testing.T) {
	expectBad(t, "nil", nil)
	expectBad(t, "not made", &octets.Reader{})
	var r octets.Reader
	expectBad(t, "not made", &r)
}

func TestReaderSharesNothing(t *testing.T) {
	b := []byte{1, 2, 3, 4}
	r := octets.New(b)
	b[0], b[3] = 99, 99
	took := r.Take(3)
	if !bytes.Equal(took, []byte{1, 2, 3}) {
		t.Error("the reader changed with the argument:", took)
	}
	took = append(took, 98)
	if n := r.Number(1); n != 4 {
		t.Error("the reader changed with what was taken:", n)
	}
	if !bytes.Equal(b, []byte{99, 2, 3, 99}) {
		t.Error("the argument changed:", b)
	}
}

// P1.4: round trips.

// fits is what of n fits into a size.
func fits(n uint64, size int) uint64 {
	if size == 8 {
		return n
	}
	return n % (1 << (8 * size))
}

func TestWhatWasPutIsGot(t *testing.T) {
	for size := 1; size <= 8; size++ {
		for _, n := range []uint64{0, 1, 127, 128, 255, 256, 65535, 65536, 1 << 31, 1 << 32, 1<<56 - 1, 1 << 56, 1 << 63, somewhat, math.MaxUint64} {
			want := fits(n, size)
			b := octets.Put([]byte{7}, size, n)
			b = append(b, 5, 6)
			got, rest, ok := octets.Get(b[1:], size)
			if got != want || !ok || !bytes.Equal(rest, []byte{5, 6}) {
				t.Errorf("Get of %#x with size %d: %#x, %v, %v", n, size, got, rest, ok)
			}
			r := octets.New(b)
			if r.Number(1) != 7 || r.Number(size) != want || r.Number(2) != 0x0506 || r.Bad() {
				t.Errorf("Reader of %#x with size %d", n, size)
			}
		}
	}
}

func TestRowsOfWhatWasPut(t *testing.T) {
	for size := 1; size <= 8; size++ {
		var b []byte
		var want []uint64
		n := uint64(1)
		for range 50 {
			b = octets.Put(b, size, n)
			want = append(want, fits(n, size))
			n = n*6364136223846793005 + 1442695040888963407
		}
		if got := slices.Collect(octets.Rows(b, size)); !slices.Equal(got, want) {
			t.Errorf("size %d: %#x, not %#x", size, got, want)
		}
	}
}
