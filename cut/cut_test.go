package cut_test

import (
	"bytes"
	"iter"
	"math"
	"slices"
	"testing"

	"nozzle/api"
	"nozzle/cut"
	"nozzle/draws"
)

// lengths and mtus are some of each, those at the limits among them; with all of them a message can be cut.
var (
	lengths = []int{1, 2, 3, 4, 5, 7, 8, 9, 254, 255, 256, 257, 511, 512, 513, 1000, 1022, 1023, 1024, 1025, 2047, 2048, 2049, 65534, 65535, 65536}
	mtus    = []int{1, 2, 3, 4, 5, 255, 256, 257, 511, 512, 513, 1000, 1022, 1023, 1024}
)

// noLengths and noMtus are those with which no message can be cut.
var (
	noLengths = []int{0, -1, -2, -65535, -65536, math.MinInt, math.MinInt + 1, 65537, 65538, 65536 + 1024, 131072, 1<<32 + 1, math.MaxInt - 1, math.MaxInt}
	noMtus    = []int{0, -1, -2, -1023, -1024, math.MinInt, math.MinInt + 1, 1025, 1026, 2048, 65536, 1<<32 + 1, math.MaxInt - 1, math.MaxInt}
)

// text is a message of n bytes, which no other seed gives.
func text(seed uint64, n int) []byte {
	out := make([]byte, n)
	for i := range out {
		out[i] = byte(draws.At(seed, i))
	}
	return out
}

// model does slowly, as the document says it, what Cut does.
func model(m []byte, mtu int) []api.Piece {
	var out []api.Piece
	if len(m) < 1 || len(m) > 65536 || mtu < 1 || mtu > 1024 {
		return nil
	}
	for _, x := range m {
		if last := len(out) - 1; last < 0 || len(out[last].B) == mtu {
			out = append(out, api.Piece{})
		}
		last := &out[len(out)-1]
		last.B = append(last.B, x)
	}
	out[len(out)-1].End = true
	return out
}

// models are the pieces of all messages.
func models(mtu int, messages ...[]byte) []api.Piece {
	var out []api.Piece
	for _, m := range messages {
		out = append(out, model(m, mtu)...)
	}
	return out
}

// equal holds lists of pieces against each other, without a call of package cut.
func equal(a, b []api.Piece) bool {
	return slices.EqualFunc(a, b, func(x, y api.Piece) bool {
		return x.End == y.End && x.Fin == y.Fin && bytes.Equal(x.B, y.B)
	})
}

// ranged is the first most pieces; the loop is left in the middle then.
func ranged(pieces iter.Seq[api.Piece], most int) []api.Piece {
	var out []api.Piece
	for p := range pieces {
		out = append(out, p)
		if len(out) == most {
			break
		}
	}
	return out
}

// all are all pieces.
func all(pieces iter.Seq[api.Piece]) []api.Piece { return ranged(pieces, -1) }

// spoil changes pieces in all their bytes, and in those behind them that a slice of them reaches.
func spoil(pieces []api.Piece) {
	for _, p := range pieces {
		b := p.B[:cap(p.B)]
		for i := range b {
			b[i] ^= 0xff
		}
	}
}

// P11.1: Cut, Count.

func TestExampleOfTheChapter(t *testing.T) {
	l, e := cut.Cut([]byte("abcde"), 2)
	want := []api.Piece{{B: []byte("ab")}, {B: []byte("cd")}, {B: []byte("e"), End: true}}
	if e != api.OK || !equal(l, want) {
		t.Error(l, e)
	}
	if n := cut.Count(5, 2); n != 3 {
		t.Error("Count:", n)
	}
}

func TestAMessageIsCut(t *testing.T) {
	for _, n := range lengths {
		m := text(uint64(n), n)
		for _, mtu := range mtus {
			l, e := cut.Cut(m, mtu)
			if e != api.OK || !equal(l, model(m, mtu)) || cut.Count(n, mtu) != len(l) {
				t.Errorf("Cut of %d bytes into pieces of %d: %d pieces, %d, Count %d", n, mtu, len(l), e, cut.Count(n, mtu))
			}
		}
	}
}

func TestAllShortMessagesAreCut(t *testing.T) {
	for n := 1; n <= 80; n++ {
		m := text(7, n)
		for mtu := 1; mtu <= 83; mtu++ {
			if l, e := cut.Cut(m, mtu); e != api.OK || !equal(l, model(m, mtu)) || cut.Count(n, mtu) != len(l) {
				t.Errorf("Cut of %d bytes into pieces of %d: %v, %d, Count %d", n, mtu, l, e, cut.Count(n, mtu))
			}
		}
	}
}

func TestWhatItsBytesAreMakesNoDifference(t *testing.T) {
	for _, m := range [][]byte{{0}, {255}, {0, 0, 0}, {255, 255, 255, 255}, []byte("\n\x00\xffé")} {
		for mtu := 1; mtu <= 5; mtu++ {
			if l, e := cut.Cut(m, mtu); e != api.OK || !equal(l, model(m, mtu)) {
				t.Errorf("Cut(%v, %d): %v, %d", m, mtu, l, e)
			}
		}
	}
}

func TestWhatCannotBeCutIsRefused(t *testing.T) {
	refused := func(m []byte, mtu int) {
		t.Helper()
		if l, e := cut.Cut(m, mtu); len(l) != 0 || e != api.ErrCut {
			t.Errorf("Cut of %d bytes into pieces of %d: %d pieces, %d", len(m), mtu, len(l), e)
		}
	}
	for _, mtu := range append(slices.Clone(mtus), noMtus...) {
		refused(nil, mtu)
		refused([]byte{}, mtu)
		refused(make([]byte, 0, 50), mtu)
		refused(make([]byte, 65537), mtu)
		refused(make([]byte, 65536+1024), mtu)
		refused(make([]byte, 131072), mtu)
	}
	for _, mtu := range noMtus {
		for _, n := range lengths {
			refused(make([]byte, n), mtu)
		}
	}
}

func TestCountIsThatOfEachLength(t *testing.T) {
	for _, mtu := range mtus {
		for n, want := 1, 0; n <= 65536; n++ {
			if n%mtu == 1%mtu { // a piece begins
				want++
			}
			if got := cut.Count(n, mtu); got != want {
				t.Fatalf("Count(%d, %d): %d, not %d", n, mtu, got, want)
			}
		}
	}
}

func TestCountOfWhatCannotBeCut(t *testing.T) {
	for _, n := range noLengths {
		for _, mtu := range append(slices.Clone(mtus), noMtus...) {
			if got := cut.Count(n, mtu); got != 0 {
				t.Errorf("Count(%d, %d): %d", n, mtu, got)
			}
		}
	}
	for _, mtu := range noMtus {
		for _, n := range lengths {
			if got := cut.Count(n, mtu); got != 0 {
				t.Errorf("Count(%d, %d): %d", n, mtu, got)
			}
		}
	}
}

func TestCutSharesNothing(t *testing.T) {
	for _, mtu := range []int{1, 3, 8, 9, 10, 64, 1024} {
		room := text(3, 40)
		m := room[5:14]
		want, before := model(m, mtu), bytes.Clone(room)
		one, _ := cut.Cut(m, mtu)
		two, _ := cut.Cut(m, mtu)
		if !bytes.Equal(room, before) {
			t.Errorf("mtu %d: Cut wrote into its argument", mtu)
		}
		spoil(two)
		if !bytes.Equal(room, before) || !equal(one, want) {
			t.Errorf("mtu %d: a result shares memory with the argument or another result", mtu)
		}
		clear(room)
		if !equal(one, want) {
			t.Errorf("mtu %d: a result changed with the argument", mtu)
		}
	}
}

func TestPiecesOfOneMessageShareNothing(t *testing.T) {
	m := text(4, 21)
	for _, mtu := range []int{1, 2, 5, 8, 20} {
		for i := range cut.Count(len(m), mtu) {
			l, _ := cut.Cut(m, mtu)
			want := model(m, mtu)
			_ = append(l[i].B, 9, 9, 9)
			spoil(l[i : i+1])
			if !equal(l[:i], want[:i]) || !equal(l[i+1:], want[i+1:]) {
				t.Errorf("mtu %d: piece %d shares memory with another", mtu, i)
			}
		}
	}
}

// P11.2: Pieces.

func TestPiecesOfMessagesOneAfterTheOther(t *testing.T) {
	a, b, c := []byte("abcde"), []byte("f"), []byte("ghij")
	for _, mtu := range []int{1, 2, 3, 4, 5, 6, 1023, 1024} {
		for _, messages := range [][][]byte{{}, {a}, {a, b}, {b, a}, {a, b, c}, {c, b, a}, {a, a, a}} {
			if got, want := all(cut.Pieces(mtu, messages...)), models(mtu, messages...); !equal(got, want) {
				t.Errorf("Pieces(%d, %q): %v, not %v", mtu, messages, got, want)
			}
		}
	}
	if got := all(cut.Pieces(3, a, b, c)); len(got) != 5 || !got[1].End || !got[2].End || !got[4].End || string(got[3].B) != "ghi" {
		t.Error(got)
	}
}

func TestPiecesOfOneMessageAreThoseOfCut(t *testing.T) {
	for _, n := range append(slices.Clone(lengths), 0, 65537) {
		m := text(uint64(n), n)
		for _, mtu := range append(slices.Clone(mtus), 0, -1, 1025) {
			l, _ := cut.Cut(m, mtu)
			if got := all(cut.Pieces(mtu, m)); !equal(got, l) || !equal(got, model(m, mtu)) {
				t.Errorf("Pieces of %d bytes, mtu %d: %d, not %d", n, mtu, len(got), len(l))
			}
		}
	}
}

func TestPiecesPassOverWhatCannotBeCut(t *testing.T) {
	whole, long := text(1, 65536), make([]byte, 65537)
	messages := [][]byte{nil, []byte("abc"), {}, long, []byte("d"), nil, whole, long, []byte("ef"), {}}
	for _, mtu := range mtus {
		got, want := all(cut.Pieces(mtu, messages...)), models(mtu, messages...)
		if !equal(got, want) || !equal(got, models(mtu, []byte("abc"), []byte("d"), whole, []byte("ef"))) {
			t.Errorf("mtu %d: %d pieces, not %d", mtu, len(got), len(want))
		}
	}
	for _, m := range [][]byte{nil, {}, long} {
		for _, mtu := range mtus {
			if got := all(cut.Pieces(mtu, m, m)); len(got) != 0 {
				t.Errorf("%d bytes, mtu %d: %d pieces", len(m), mtu, len(got))
			}
		}
	}
}

func TestNoPiecesWithoutAnMtu(t *testing.T) {
	for _, mtu := range noMtus {
		if got := all(cut.Pieces(mtu, []byte("abc"), nil, text(1, 65536))); len(got) != 0 {
			t.Errorf("mtu %d: %v", mtu, got)
		}
	}
}

func TestNoPiecesWithoutMessages(t *testing.T) {
	for _, mtu := range append(slices.Clone(mtus), noMtus...) {
		if cut.Pieces(mtu) == nil || len(all(cut.Pieces(mtu))) != 0 || len(all(cut.Pieces(mtu, [][]byte{}...))) != 0 {
			t.Errorf("mtu %d", mtu)
		}
	}
}

func TestPiecesEndWhereTheLoopIsLeft(t *testing.T) {
	a, b, c := []byte("abcde"), []byte("fg"), []byte("hij")
	want := models(2, a, b, c)
	pieces := cut.Pieces(2, a, nil, b, c)
	for most := 1; most <= len(want); most++ {
		if got := ranged(pieces, most); !equal(got, want[:most]) {
			t.Errorf("left after %d: %v", most, got)
		}
		times := 0
		pieces(func(api.Piece) bool { // not by range: a call after false would panic there
			times++
			return times < most
		})
		if times != most {
			t.Errorf("left after %d: yielded %d times", most, times)
		}
	}
}

func TestPiecesAreRangedOverAgain(t *testing.T) {
	a, b := text(1, 30), text(2, 7)
	want := models(4, a, b)
	pieces := cut.Pieces(4, a, b)
	for most := range len(want) + 1 {
		got := ranged(pieces, most)
		for _, p := range got {
			_ = append(p.B, 9, 9, 9)
		}
		spoil(got)
		if got := all(pieces); !equal(got, want) {
			t.Errorf("again after %d: %v", most, got)
		}
	}
	outer := 0
	for p := range pieces { // within each other
		if !equal([]api.Piece{p}, want[outer:outer+1]) || !equal(all(pieces), want) {
			t.Errorf("within: piece %d: %v", outer, p)
		}
		outer++
	}
	if outer != len(want) {
		t.Errorf("within: %d pieces", outer)
	}
}

func TestPiecesKeepNoArgument(t *testing.T) {
	a, b := text(1, 30), text(2, 7)
	messages := [][]byte{a, b, nil}
	want := models(4, messages...)
	before := cut.Pieces(4, messages...)
	meanwhile := cut.Pieces(4, messages...)
	i := 0
	for p := range meanwhile {
		if !equal([]api.Piece{p}, want[i:i+1]) {
			t.Errorf("piece %d changed with the argument: %v", i, p)
		}
		a[4*i%len(a)]++
		b[i%len(b)]++
		a[len(a)-1]++
		messages[i%3] = []byte("xyz")
		i++
	}
	clear(a)
	clear(b)
	clear(messages)
	if got := all(before); i != len(want) || !equal(got, want) {
		t.Errorf("%d pieces, the others: %v, not %v", i, got, want)
	}
}

func TestPiecesChangeNoArgument(t *testing.T) {
	room := text(1, 60)
	messages := [][]byte{room[3:20], room[:0], room[18:30]}
	before := bytes.Clone(room)
	got := all(cut.Pieces(5, messages...))
	for _, p := range got {
		_ = append(p.B, 9, 9, 9)
	}
	spoil(got)
	if !bytes.Equal(room, before) || len(messages) != 3 || len(messages[0]) != 17 || len(messages[1]) != 0 || len(messages[2]) != 12 {
		t.Error("an argument changed:", room, messages)
	}
}

func TestYieldedPiecesShareNothing(t *testing.T) {
	a, b := text(1, 11), text(2, 9)
	want := models(4, a, b)
	for i := range want {
		l := all(cut.Pieces(4, a, b))
		_ = append(l[i].B, 9, 9, 9)
		spoil(l[i : i+1])
		if !equal(l[:i], want[:i]) || !equal(l[i+1:], want[i+1:]) {
			t.Errorf("piece %d shares memory with another: %v", i, l)
		}
	}
}

// P11.3: Fin, Same.

func TestFinHasFinAndNothingElse(t *testing.T) {
	for range 2 {
		p := cut.Fin()
		if len(p.B) != 0 || p.End || !p.Fin {
			t.Error(p)
		}
		p.B = append(p.B, 1) // what becomes of one is nothing to the next
		p.End, p.Fin = true, false
	}
}

func TestSameTellsEqualPieces(t *testing.T) {
	var some []api.Piece
	for _, b := range []string{"", "a", "b", "\x00", "\x00\x00", "ab", "ba", "abc", "aba", "A"} {
		for i := range 4 {
			some = append(some, api.Piece{B: []byte(b), End: i%2 == 1, Fin: i/2 == 1})
		}
	}
	for i, a := range some {
		for j, b := range some {
			if cut.Same(a, b) != (i == j) {
				t.Errorf("Same(%v, %v): %v", a, b, cut.Same(a, b))
			}
		}
	}
}

func TestSameComparesEachByte(t *testing.T) {
	b := text(5, 2000) // also what is longer than any piece is compared
	for i := range b {
		other := bytes.Clone(b)
		if !cut.Same(api.Piece{B: b}, api.Piece{B: other}) {
			t.Fatal("equal bytes elsewhere")
		}
		other[i] ^= 1
		if cut.Same(api.Piece{B: b}, api.Piece{B: other}) || cut.Same(api.Piece{B: b}, api.Piece{B: b[:i]}) || cut.Same(api.Piece{B: b[:i]}, api.Piece{B: b}) {
			t.Errorf("byte %d", i)
		}
	}
}

func TestSameTakesNilForEmpty(t *testing.T) {
	for i := range 4 {
		a := api.Piece{B: nil, End: i%2 == 1, Fin: i/2 == 1}
		b := api.Piece{B: make([]byte, 0, 9), End: a.End, Fin: a.Fin}
		if !cut.Same(a, b) || !cut.Same(b, a) || !cut.Same(a, a) || !cut.Same(b, b) {
			t.Error(a, b)
		}
	}
	if !cut.Same(cut.Fin(), api.Piece{B: []byte{}, Fin: true}) || cut.Same(cut.Fin(), api.Piece{}) || cut.Same(cut.Fin(), api.Piece{B: []byte{0}, Fin: true}) {
		t.Error("Fin")
	}
}

func TestSameDoesNotLookBehindThePiece(t *testing.T) {
	a, b := []byte("abx"), []byte("aby")
	if !cut.Same(api.Piece{B: a[:2]}, api.Piece{B: b[:2]}) || string(a) != "abx" || string(b) != "aby" {
		t.Error(a, b)
	}
}

// P11.4: completeness.

// complete tells what is wrong with the pieces of a message, or nothing.
func complete(m []byte, mtu int, l []api.Piece) string {
	var whole []byte
	for i, p := range l {
		switch {
		case len(p.B) == 0 || len(p.B) > mtu:
			return "a piece is empty or too long"
		case p.End != (i == len(l)-1):
			return "not the last one alone has End"
		case p.Fin:
			return "a piece has Fin"
		}
		whole = append(whole, p.B...)
	}
	if !bytes.Equal(whole, m) {
		return "the pieces are not the message"
	}
	return ""
}

func TestPiecesAreTheMessage(t *testing.T) {
	for seed := range uint64(300) {
		s := draws.New(seed)
		m := text(seed, 1+s.Below([]int{5, 3000, 65536}[seed%3]))
		mtu := 1 + s.Below(1024)
		l, e := cut.Cut(m, mtu)
		if what := complete(m, mtu, l); what != "" || e != api.OK {
			t.Errorf("%d bytes, mtu %d: %s, %d", len(m), mtu, what, e)
		}
		if what := complete(m, mtu, all(cut.Pieces(mtu, m))); what != "" {
			t.Errorf("Pieces of %d bytes, mtu %d: %s", len(m), mtu, what)
		}
	}
}

func TestTheLongestMessageIsItsPieces(t *testing.T) {
	m := text(9, 65536)
	for mtu := 1; mtu <= 1024; mtu += 31 {
		l, e := cut.Cut(m, mtu)
		if what := complete(m, mtu, l); what != "" || e != api.OK {
			t.Errorf("mtu %d: %s, %d", mtu, what, e)
		}
	}
}

func FuzzCutAgrees(f *testing.F) {
	f.Add([]byte("abcde"), 2, []byte("f"))
	f.Add([]byte{}, 1, []byte{0})
	f.Add(make([]byte, 1025), 1024, make([]byte, 1024))
	f.Add([]byte("a"), 0, []byte("b"))
	f.Add([]byte("a"), 1025, []byte{})
	f.Add([]byte("a"), math.MinInt, []byte("b"))
	f.Fuzz(func(t *testing.T, m []byte, mtu int, more []byte) {
		want := model(m, mtu)
		l, e := cut.Cut(m, mtu)
		if !equal(l, want) || (e == api.OK) != (len(want) > 0) || e != api.OK && e != api.ErrCut {
			t.Errorf("Cut(%v, %d): %v, %d", m, mtu, l, e)
		}
		if e == api.OK && complete(m, mtu, l) != "" {
			t.Error(complete(m, mtu, l))
		}
		if n := cut.Count(len(m), mtu); n != len(want) {
			t.Errorf("Count(%d, %d): %d, not %d", len(m), mtu, n, len(want))
		}
		if got, want := all(cut.Pieces(mtu, m, more, nil, m)), models(mtu, m, more, m); !equal(got, want) {
			t.Errorf("Pieces(%d, %v, %v): %v", mtu, m, more, got)
		}
		a, b := api.Piece{B: m}, api.Piece{B: more}
		if cut.Same(a, b) != bytes.Equal(m, more) || !cut.Same(a, a) {
			t.Errorf("Same(%v, %v): %v", a, b, cut.Same(a, b))
		}
	})
}
