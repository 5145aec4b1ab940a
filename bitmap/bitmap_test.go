package bitmap_test

import (
	"math"
	"slices"
	"testing"

	"nozzle/api"
	"nozzle/bitmap"
	"nozzle/draws"
)

// sizes and bases are some of each, those at the limits and at the ends of words among them.
var (
	sizes = []int{1, 2, 3, 63, 64, 65, 100, 127, 128, 129, 191, 192, 193, 255, 256}
	bases = []int{0, 1, 7, 63, 64, 65, 128, 200, 255, 256, 257, 1000, 1<<32 - 1, 1 << 32, 1<<59 + 77, api.MaxSeq - 256, api.MaxSeq - 255, api.MaxSeq - 100, api.MaxSeq - 1, api.MaxSeq}
)

// nowhere are numbers that no bitmap has in its window, nor below it.
var nowhere = []int{-1, -2, -63, -64, -65, -256, -257, -api.MaxSeq, math.MinInt, math.MinInt + 1, api.MaxSeq + 1, api.MaxSeq + 2, api.MaxSeq + 256, api.MaxSeq + 257, math.MaxInt - 1, math.MaxInt}

// notMade are bitmaps that neither New nor Fork made.
func notMade() map[string]*bitmap.Bitmap {
	_, _ = bitmap.New(3, 2) // a bitmap elsewhere makes nothing of these
	var zero bitmap.Bitmap
	var none *bitmap.Bitmap
	refused, _ := bitmap.New(257, 0)
	return map[string]*bitmap.Bitmap{"nil": nil, "zero": {}, "new": new(bitmap.Bitmap), "refused": refused, "its fork": zero.Fork(), "fork of nil": none.Fork()}
}

// model does slowly, as the document says it, what a bitmap does.
type model struct {
	size, base int
	got        map[int]bool // also those below the base that were in the window once
}

func (m *model) has(n int) bool { return n >= 0 && (n < m.base || m.got[n]) }

func (m *model) set(n int) (bool, api.Errno) {
	if n < 0 || n > m.base+m.size-1 || n > api.MaxSeq {
		return false, api.ErrRange
	}
	before := m.has(n)
	m.got[n] = true
	return !before, api.OK
}

func (m *model) advance() int {
	before := m.base
	for m.got[m.base] && m.base <= api.MaxSeq {
		m.base++
	}
	return m.base - before
}

func (m *model) list() []int {
	var out []int
	for n := m.base; n < m.base+m.size; n++ {
		if m.got[n] {
			out = append(out, n)
		}
	}
	return out
}

func (m *model) lacking(most int) []int {
	var out []int
	for n := m.base; n < m.base+m.size && n <= api.MaxSeq && len(out) < most; n++ {
		if !m.got[n] {
			out = append(out, n)
		}
	}
	return out
}

func (m *model) fork() *model {
	other := &model{m.size, m.base, map[int]bool{}}
	for n := range m.got {
		other.got[n] = true
	}
	return other
}

// made is a bitmap, and the model of it.
func made(t *testing.T, size, base int) (*bitmap.Bitmap, *model) {
	t.Helper()
	b, e := bitmap.New(size, base)
	if b == nil || e != api.OK {
		t.Fatalf("New(%d, %d): %v, %d", size, base, b, e)
	}
	return b, &model{size, base, map[int]bool{}}
}

// set sets numbers in both.
func set(t *testing.T, b *bitmap.Bitmap, m *model, numbers ...int) {
	t.Helper()
	for _, n := range numbers {
		got, e := b.Set(n)
		want, wantE := m.set(n)
		if got != want || e != wantE {
			t.Errorf("Set(%d) with size %d, base %d: %v, %d, not %v, %d", n, m.size, m.base, got, e, want, wantE)
		}
	}
}

// advance advances both.
func advance(t *testing.T, b *bitmap.Bitmap, m *model) int {
	t.Helper()
	got, want := b.Advance(), m.advance()
	if got != want {
		t.Errorf("Advance with size %d to base %d: %d, not %d", m.size, m.base, got, want)
	}
	return got
}

// around is numbers in, below and beyond the window, and far from it.
func (m *model) around() []int {
	out := []int{0, 1, m.base / 2}
	for n := m.base - 2*api.MaxWindow - 3; n < m.base+m.size+2*api.MaxWindow+3; n++ {
		out = append(out, n)
	}
	return append(out, nowhere...)
}

// mosts is how many Lacking is asked for.
func (m *model) mosts() []int {
	return []int{math.MinInt, -1 << 32, -1, 0, 1, 2, 3, m.size - 1, m.size, m.size + 1, 64, 256, 257, 1<<32 + 1, math.MaxInt}
}

// agree asks everything that a bitmap tells without changing it.
func agree(t *testing.T, what string, b *bitmap.Bitmap, m *model) {
	t.Helper()
	if b.Base() != m.base || b.Size() != m.size {
		t.Errorf("%s: Base %d, Size %d, not %d, %d", what, b.Base(), b.Size(), m.base, m.size)
	}
	if got, want := b.List(), m.list(); !slices.Equal(got, want) || b.Count() != len(want) {
		t.Errorf("%s: List %v, Count %d, not %v", what, got, b.Count(), want)
	}
	for _, n := range m.around() {
		if b.Has(n) != m.has(n) {
			t.Errorf("%s: Has(%d) %v with base %d", what, n, b.Has(n), m.base)
		}
	}
	for _, most := range m.mosts() {
		if got, want := b.Lacking(most), m.lacking(most); !slices.Equal(got, want) {
			t.Errorf("%s: Lacking(%d) %v, not %v", what, most, got, want)
		}
	}
}

// window is the numbers of the window that may be set.
func (m *model) window() []int {
	var out []int
	for n := m.base; n < m.base+m.size && n <= api.MaxSeq; n++ {
		out = append(out, n)
	}
	return out
}

// P10.1: New, Set, Has.

func TestNewHasNothingSet(t *testing.T) {
	for _, base := range bases {
		for _, size := range sizes {
			b, m := made(t, size, base)
			agree(t, "new", b, m)
		}
	}
	for size := 1; size <= api.MaxWindow; size++ {
		b, m := made(t, size, 5)
		agree(t, "new", b, m)
	}
}

func TestNewRefusesOtherSizesAndBases(t *testing.T) {
	for _, c := range [][2]int{
		{0, 0}, {-1, 0}, {-256, 5}, {257, 0}, {258, 9}, {512, 1}, {1 << 32, 0}, {1<<32 + 1, 0}, {math.MaxInt, 0}, {math.MinInt, 0},
		{1, -1}, {256, -1}, {4, api.MaxSeq + 1}, {256, api.MaxSeq + 1}, {1, math.MaxInt}, {1, math.MinInt}, {64, -api.MaxSeq},
		{0, -1}, {257, api.MaxSeq + 1}, {math.MinInt, math.MaxInt}, {math.MaxInt, math.MaxInt},
	} {
		if b, e := bitmap.New(c[0], c[1]); b != nil || e != api.ErrBitmap {
			t.Errorf("New(%d, %d): %v, %d", c[0], c[1], b, e)
		}
	}
}

// TestEachNumberOfTheWindowIsSetAlone sets one of each window, first and last ones among them.
func TestEachNumberOfTheWindowIsSetAlone(t *testing.T) {
	for _, base := range bases {
		for _, size := range []int{1, 2, 64, 65, 256} {
			_, m := made(t, size, base)
			for i, n := range m.window() {
				if i%16 != 0 && i%64 != 63 && n != m.base+m.size-1 && n != api.MaxSeq {
					continue
				}
				b, m := made(t, size, base)
				set(t, b, m, n)
				agree(t, "once", b, m)
				if x, e := b.Set(n); x || e != api.OK || !b.Has(n) || b.Count() != 1 {
					t.Errorf("Set(%d) again: %v, %d, Count %d", n, x, e, b.Count())
				}
				set(t, b, m, n)
				agree(t, "again", b, m)
			}
		}
	}
}

func TestAllOfTheWindowAreSet(t *testing.T) {
	for _, base := range bases {
		for _, size := range sizes {
			b, m := made(t, size, base)
			set(t, b, m, m.window()...)
			agree(t, "all", b, m)
			if want := min(size, api.MaxSeq-base+1); b.Count() != want || len(b.Lacking(size)) != 0 {
				t.Errorf("New(%d, %d): Count %d, not %d, Lacking %v", size, base, b.Count(), want, b.Lacking(size))
			}
		}
	}
}

func TestBelowTheBaseAllAreSet(t *testing.T) {
	for _, base := range []int{1, 2, 300, api.MaxSeq} {
		b, m := made(t, 4, base)
		for _, n := range []int{0, base / 2, base - 1} {
			if x, e := b.Set(n); x || e != api.OK || !b.Has(n) {
				t.Errorf("base %d, Set(%d): %v, %d, Has %v", base, n, x, e, b.Has(n))
			}
		}
		agree(t, "set below", b, m)
	}
}

func TestWhatCannotBeSetChangesNothing(t *testing.T) {
	for _, base := range bases {
		for _, size := range sizes {
			b, m := made(t, size, base)
			set(t, b, m, base)
			for _, n := range append([]int{base + size, base + size + 1, base + 256, base + 257, base + 512, base + size + 1<<32}, nowhere...) {
				if n >= 0 && n < base+size && n <= api.MaxSeq {
					continue
				}
				if x, e := b.Set(n); x || e != api.ErrRange || b.Has(n) {
					t.Errorf("New(%d, %d), Set(%d): %v, %d, Has %v", size, base, n, x, e, b.Has(n))
				}
			}
			agree(t, "refused", b, m)
		}
	}
}

func TestNothingBeyondMaxSeqIsSet(t *testing.T) {
	b, m := made(t, 5, api.MaxSeq-2)
	for _, c := range []struct {
		n int
		x bool
		e api.Errno
	}{
		{api.MaxSeq + 1, false, api.ErrRange}, // of the window, yet refused
		{api.MaxSeq + 2, false, api.ErrRange},
		{api.MaxSeq + 3, false, api.ErrRange},
		{api.MaxSeq, true, api.OK},
		{api.MaxSeq, false, api.OK},
		{api.MaxSeq - 3, false, api.OK},
	} {
		if x, e := b.Set(c.n); x != c.x || e != c.e {
			t.Errorf("Set(%d): %v, %d", c.n, x, e)
		}
	}
	m.set(api.MaxSeq)
	agree(t, "the last one", b, m)
	if l := b.Lacking(9); !slices.Equal(l, []int{api.MaxSeq - 2, api.MaxSeq - 1}) {
		t.Error("Lacking:", l)
	}
}

func TestErrNilBeforeErrRange(t *testing.T) {
	for what, b := range notMade() {
		for _, n := range append([]int{0, 1, 5, 255, api.MaxSeq}, nowhere...) {
			if x, e := b.Set(n); x || e != api.ErrNil {
				t.Errorf("%s, Set(%d): %v, %d", what, n, x, e)
			}
		}
	}
}

// P10.2: Advance, Base, Size.

func TestExampleOfTheChapter(t *testing.T) {
	b, m := made(t, 4, 10)
	set(t, b, m, 10, 12)
	if n := b.Advance(); n != 1 || b.Base() != 11 || b.Size() != 4 {
		t.Error(n, b.Base(), b.Size())
	}
	if l := b.Lacking(9); !slices.Equal(l, []int{11, 13, 14}) {
		t.Error("Lacking:", l)
	}
	if b.Count() != 1 || !slices.Equal(b.List(), []int{12}) || !b.Has(10) || b.Has(11) || !b.Has(12) {
		t.Error(b.Count(), b.List())
	}
}

func TestSetDoesNotAdvance(t *testing.T) {
	b, m := made(t, 3, 7)
	set(t, b, m, 7, 8, 9, 10)
	agree(t, "not yet", b, m)
	if b.Base() != 7 || b.Count() != 3 {
		t.Error(b.Base(), b.Count())
	}
}

func TestAdvanceStopsAtTheFirstThatIsNotSet(t *testing.T) {
	for _, base := range bases {
		for _, size := range sizes {
			for _, gap := range []int{0, 1, size / 2, size - 1} {
				b, m := made(t, size, base)
				for _, n := range m.window() {
					if n != base+gap {
						set(t, b, m, n)
					}
				}
				want := min(gap, api.MaxSeq-base+1)
				if n := advance(t, b, m); n != want || b.Base() != base+want || b.Size() != size {
					t.Errorf("New(%d, %d), all but %d: Advance %d, Base %d", size, base, base+gap, n, b.Base())
				}
				agree(t, "up to the gap", b, m)
				if n := advance(t, b, m); n != 0 {
					t.Errorf("Advance again: %d", n)
				}
				set(t, b, m, base+gap)
				advance(t, b, m)
				agree(t, "over the gap", b, m)
			}
		}
	}
}

func TestAdvanceByNothing(t *testing.T) {
	for _, base := range bases {
		for _, size := range []int{1, 2, 64, 256} {
			b, m := made(t, size, base)
			advance(t, b, m)
			agree(t, "nothing is set", b, m)
			set(t, b, m, base+size-1)
			advance(t, b, m)
			agree(t, "the last one is set", b, m)
		}
	}
}

func TestAdvanceOverAWholeWindow(t *testing.T) {
	for _, size := range sizes {
		b, m := made(t, size, 0)
		for round := range 5 {
			set(t, b, m, m.window()...)
			if n := advance(t, b, m); n != size || b.Base() != size*(round+1) {
				t.Errorf("size %d: Advance %d, Base %d", size, n, b.Base())
			}
			agree(t, "a window without any", b, m)
		}
	}
}

// TestWhatTheWindowReachesIsNotSet goes on number by number, so that each bit is used many times.
func TestWhatTheWindowReachesIsNotSet(t *testing.T) {
	for _, size := range sizes {
		b, m := made(t, size, 250)
		for range 2*api.MaxWindow + 20 {
			last := b.Base() + size
			if x, e := b.Set(last); x || e != api.ErrRange {
				t.Fatalf("size %d, Set(%d): %v, %d", size, last, x, e)
			}
			set(t, b, m, b.Base())
			if n := advance(t, b, m); n < 1 || b.Has(last) {
				t.Fatalf("size %d: Advance %d, Has(%d) %v", size, n, last, b.Has(last))
			}
			if last%2 == 0 {
				set(t, b, m, last)
			}
		}
		agree(t, "later", b, m)
	}
}

func TestAdvanceEndsBehindMaxSeq(t *testing.T) {
	for _, size := range sizes {
		for before := range 5 {
			b, m := made(t, size, api.MaxSeq-before)
			for n := 0; n <= before; n += max(1, advance(t, b, m)) {
				set(t, b, m, m.window()...)
			}
			advance(t, b, m)
			agree(t, "at the end", b, m)
			if b.Base() != api.MaxSeq+1 || b.Count() != 0 || len(b.Lacking(9)) != 0 || !b.Has(api.MaxSeq) {
				t.Errorf("size %d: Base %d, Count %d, Lacking %v", size, b.Base(), b.Count(), b.Lacking(9))
			}
			for _, n := range []int{api.MaxSeq + 1, api.MaxSeq + size, api.MaxSeq + 256, api.MaxSeq + 257} {
				if x, e := b.Set(n); x || e != api.ErrRange {
					t.Errorf("Set(%d): %v, %d", n, x, e)
				}
			}
			if x, e := b.Set(api.MaxSeq); x || e != api.OK || b.Advance() != 0 {
				t.Error("Set of the last one again:", x, e, b.Base())
			}
			agree(t, "still at the end", b, m)
		}
	}
}

// P10.3: Count, List, Lacking, Fork.

func TestLackingTellsTheFirstMost(t *testing.T) {
	b, m := made(t, 6, 100)
	set(t, b, m, 101, 104)
	for _, c := range []struct {
		most int
		want []int
	}{
		{math.MinInt, nil}, {-1, nil}, {0, nil}, {1, []int{100}}, {2, []int{100, 102}}, {3, []int{100, 102, 103}},
		{4, []int{100, 102, 103, 105}}, {5, []int{100, 102, 103, 105}}, {math.MaxInt, []int{100, 102, 103, 105}},
	} {
		if got := b.Lacking(c.most); !slices.Equal(got, c.want) {
			t.Errorf("Lacking(%d): %v, not %v", c.most, got, c.want)
		}
	}
	if !slices.Equal(b.List(), []int{101, 104}) || b.Count() != 2 {
		t.Error(b.List(), b.Count())
	}
}

func TestAnswersAreNewMemory(t *testing.T) {
	b, m := made(t, 70, 3)
	set(t, b, m, 3, 5, 66, 72)
	list, again := b.List(), b.List()
	lacking, once := b.Lacking(80), b.Lacking(80)
	_ = append(list, 9, 9)
	clear(list)
	_ = append(lacking, 9, 9)
	clear(lacking)
	agree(t, "its answers were changed", b, m)
	set(t, b, m, 4)
	advance(t, b, m)
	if !slices.Equal(again, []int{3, 5, 66, 72}) || len(once) != 66 || once[0] != 4 || once[65] != 71 {
		t.Error("answers share memory:", again, once)
	}
}

func TestForkGoesItsOwnWay(t *testing.T) {
	b, m := made(t, 200, 90)
	set(t, b, m, 90, 91, 93, 150, 289)
	advance(t, b, m)
	fork, of := b.Fork(), m.fork()
	agree(t, "fork", fork, of)
	set(t, b, m, 92, 291, 151)
	advance(t, b, m)
	agree(t, "the bitmap", b, m)
	agree(t, "the fork, after the bitmap went on", fork, of)
	second, ofSecond := fork.Fork(), of.fork()
	set(t, fork, of, 100, 101, 92)
	advance(t, fork, of)
	agree(t, "the fork", fork, of)
	agree(t, "the bitmap, after the fork went on", b, m)
	agree(t, "the fork of the fork", second, ofSecond)
}

func TestBitmapsGoTheirOwnWays(t *testing.T) {
	a, ofA := made(t, 4, 5)
	b, ofB := made(t, 4, 5)
	set(t, a, ofA, 5, 7)
	agree(t, "b", b, ofB)
	set(t, b, ofB, 5, 6)
	advance(t, b, ofB)
	agree(t, "a", a, ofA)
}

func TestBitmapThatIsNotMade(t *testing.T) {
	for what, b := range notMade() {
		for range 2 {
			b.Set(0) // nor does any of these make it one
			if n := b.Advance(); n != 0 || b.Base() != 0 || b.Size() != 0 || b.Count() != 0 {
				t.Errorf("%s: Advance %d, Base %d, Size %d, Count %d", what, n, b.Base(), b.Size(), b.Count())
			}
			for _, n := range append([]int{0, 1, 256, api.MaxSeq}, nowhere...) {
				if b.Has(n) {
					t.Errorf("%s: Has(%d)", what, n)
				}
				if l := b.Lacking(n); len(l) != 0 {
					t.Errorf("%s: Lacking(%d) %v", what, n, l)
				}
			}
			if l := b.List(); len(l) != 0 {
				t.Errorf("%s: List %v", what, l)
			}
			if f := b.Fork(); f != nil {
				t.Errorf("%s: Fork %v", what, f)
			}
		}
	}
}

// P10.4, P10.5: any order, once.

func TestTheOrderMakesNoDifference(t *testing.T) {
	for seed := range uint64(60) {
		s := draws.New(seed)
		size, base := sizes[s.Below(len(sizes))], bases[s.Below(len(bases))]
		first, m := made(t, size, base)
		var l []int
		for _, n := range m.window() {
			if s.Below(4) > 0 {
				l = append(l, n)
			}
		}
		set(t, first, m, l...)
		advance(t, first, m)
		agree(t, "in increasing order", first, m)
		for range 3 {
			b, e := bitmap.New(size, base)
			if e != api.OK {
				t.Fatal(e)
			}
			on := 0
			for _, n := range draws.Shuffle(s, l) {
				if x, e := b.Set(n); !x || e != api.OK {
					t.Errorf("seed %d, Set(%d): %v, %d", seed, n, x, e)
				}
				if s.Below(3) == 0 { // the base advances at any time
					on += b.Advance()
				}
			}
			on += b.Advance()
			if on != m.base-base {
				t.Errorf("seed %d: on by %d, not %d", seed, on, m.base-base)
			}
			agree(t, "in any order", b, m)
		}
	}
}

func TestSetIsTrueOnceForEachNumber(t *testing.T) {
	for seed := range uint64(20) {
		s := draws.New(seed)
		size, base := sizes[s.Below(len(sizes))], 100*s.Below(9)
		b, m := made(t, size, base)
		times := map[int]int{}
		for range 3000 {
			n := max(0, b.Base()-3) + s.Below(size+6)
			x, _ := b.Set(n)
			if x {
				times[n]++
			}
			m.set(n)
			if s.Below(4) == 0 {
				advance(t, b, m)
			}
		}
		agree(t, "any numbers", b, m)
		for n := range b.Base() + size {
			if want := n >= base && b.Has(n); (times[n] == 1) != want || times[n] > 1 {
				t.Errorf("seed %d, size %d: Set(%d) was true %d times", seed, size, n, times[n])
			}
		}
	}
}

func FuzzBitmapAgrees(f *testing.F) {
	f.Add(uint16(4), 10, []byte{0, 2, 255, 3})
	f.Add(uint16(256), 1<<60-2, []byte{0, 1, 2, 3, 255, 0, 1, 254})
	f.Add(uint16(64), 63, []byte{63, 0, 64, 255, 1, 253, 2, 255, 254, 80})
	f.Add(uint16(257), 0, []byte{})
	f.Add(uint16(1), -1, []byte{})
	f.Fuzz(func(t *testing.T, size uint16, base int, ops []byte) {
		if size < 1 || size > 256 || base < 0 || base > 1<<60 {
			if b, e := bitmap.New(int(size), base); b != nil || e != api.ErrBitmap {
				t.Errorf("New(%d, %d): %v, %d", size, base, b, e)
			}
			return
		}
		b, m := made(t, int(size), base)
		for _, op := range ops {
			switch op {
			case 255:
				advance(t, b, m)
			case 254:
				b.Fork().Set(b.Base()) // what becomes of a fork is nothing to b
				b = b.Fork()
			case 253:
				set(t, b, m, m.window()...)
			case 252:
				set(t, b, m, m.base+m.size, -1, m.base-1)
			default:
				set(t, b, m, m.base+int(op))
			}
		}
		agree(t, "any calls", b, m)
	})
}
