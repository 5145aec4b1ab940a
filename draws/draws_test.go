package draws_test

import (
	"bytes"
	"iter"
	"math"
	"math/big"
	"slices"
	"strconv"
	"testing"

	"nozzle/draws"
)

// step is the number that lies between two neighbouring draws before they are mixed.
const step = 11400714819323198485

// seeds are seeds of many sorts.
var seeds = []uint64{0, 1, 2, 7, 1234567, 1 << 31, 1 << 32, 1<<63 - 1, 1 << 63, math.MaxUint64 - 1, math.MaxUint64, step, math.MaxUint64 - step + 1}

// ints are numbers of many sorts: indices, parts of keys and bounds.
var ints = []int{0, 1, 2, 3, -1, -2, 7, 1000, 1 << 31, -1 << 31, 1 << 32, 1<<62 - 1, 1 << 62, 1<<62 + 1, -1 << 62, math.MaxInt - 1, math.MaxInt, math.MinInt, math.MinInt + 1}

func reduced(n *big.Int) *big.Int { return n.Mod(n, new(big.Int).Lsh(big.NewInt(1), 64)) }

// slowMix mixes word by word as the document defines it, with unbounded numbers.
func slowMix(n *big.Int) uint64 {
	z := reduced(new(big.Int).Set(n))
	z.Xor(z, new(big.Int).Rsh(z, 30))
	reduced(z.Mul(z, new(big.Int).SetUint64(13787848793156543929)))
	z.Xor(z, new(big.Int).Rsh(z, 27))
	reduced(z.Mul(z, new(big.Int).SetUint64(10723151780598845931)))
	z.Xor(z, new(big.Int).Rsh(z, 31))
	return z.Uint64()
}

func slowAt(seed uint64, i int) uint64 {
	n := big.NewInt(int64(i))
	n.Add(n, big.NewInt(1))
	n.Mul(n, new(big.Int).SetUint64(step))
	return slowMix(n.Add(n, new(big.Int).SetUint64(seed)))
}

func slowKey(parts []int) uint64 {
	key := uint64(0)
	for _, part := range parts {
		n := new(big.Int).SetUint64(key)
		n.Add(n, big.NewInt(int64(part)))
		key = slowMix(n.Add(n, new(big.Int).SetUint64(step)))
	}
	return key
}

// slowShuffle moves the elements themselves, and tells how many numbers it drew from the from-th on.
func slowShuffle[T any](seed uint64, from int, l []T) ([]T, int) {
	out := append([]T{}, l...)
	n := 0
	for k := len(out) - 1; k >= 1; k-- {
		drawn := new(big.Int).SetUint64(slowAt(seed, from+n))
		other := int(drawn.Mod(drawn, big.NewInt(int64(k+1))).Int64())
		out[k], out[other] = out[other], out[k]
		n++
	}
	return out, n
}

// notMade are sources that New did not make.
func notMade() map[string]*draws.Source {
	draws.New(1) // a source elsewhere makes nothing of these
	var zero draws.Source
	var none *draws.Source
	return map[string]*draws.Source{"nil": nil, "zero": {}, "new": new(draws.Source), "its fork": zero.Fork(), "fork of nil": none.Fork()}
}

// expect draws what a source draws next, from a fork, and asks how many were drawn.
func expect(t *testing.T, what string, s *draws.Source, seed uint64, drawn int) {
	t.Helper()
	if n := s.Count(); n != drawn {
		t.Errorf("%s: Count is %d, not %d", what, n, drawn)
	}
	if u := s.Fork().Next(); u != draws.At(seed, drawn) {
		t.Errorf("%s: the next one is %d, not %d", what, u, draws.At(seed, drawn))
	}
	if n := s.Count(); n != drawn {
		t.Errorf("%s: Count is %d, not %d, after a fork drew", what, n, drawn)
	}
}

// numbers are 0, 1 and so on, n of them.
func numbers(n int) []int {
	out := make([]int, n)
	for i := range out {
		out[i] = i
	}
	return out
}

// P5.1: At, Key, Draws.

func TestAtKnownNumbers(t *testing.T) {
	for _, c := range []struct {
		seed uint64
		i    int
		want uint64
	}{
		{0, 0, 16294208416658607535},
		{0, 1, 7960286522194355700},
		{0, 2, 487617019471545679},
		{0, 3, 17909611376780542444},
		{0, 4, 1961750202426094747},
		{1234567, 0, 6457827717110365317},
		{1234567, 1, 3203168211198807973},
		{1234567, 2, 9817491932198370423},
		{1234567, 3, 4593380528125082431},
		{1234567, 4, 16408922859458223821},
		{math.MaxUint64, 0, 16490336266968443936},
		{1 << 63, 7, 7084241770554260413},
		{0, -1, 0},
		{1, -1, 6238072747940578789},
		{math.MaxUint64, -1, 13029008266876403067},
		{0, -2, 3703370420611038912},
		{0, math.MinInt, 5196802822362493915},
		{0, math.MaxInt, 2720858781877447050},
		{0, 1<<62 - 1, 1360429390938723525},
		{0, 1 << 62, 47939714376772075},
	} {
		if got := draws.At(c.seed, c.i); got != c.want {
			t.Errorf("At(%d, %d) = %d, not %d", c.seed, c.i, got, c.want)
		}
	}
}

func TestAtIsAsDefined(t *testing.T) {
	for _, seed := range seeds {
		for _, i := range append(ints, numbers(100)...) {
			if got, want := draws.At(seed, i), slowAt(seed, i); got != want {
				t.Errorf("At(%d, %d) = %d, not %d", seed, i, got, want)
			}
		}
	}
}

func TestKeyKnownNumbers(t *testing.T) {
	for _, c := range []struct {
		want  uint64
		parts []int
	}{
		{0, nil},
		{0, []int{}},
		{16294208416658607535, []int{0}},
		{10451216379200822465, []int{1}},
		{16490336266968443936, []int{-1}},
		{12035550249420947055, []int{0, 0}},
		{2558736989570252433, []int{0, 0, 0}},
		{13608149317741381227, []int{1, 2}},
		{16171810823986729605, []int{2, 1}},
		{5196802822362493915, []int{math.MinInt}},
		{3055647633038352039, []int{math.MaxInt}},
		{11735135251131200698, []int{math.MinInt, math.MaxInt, -1}},
		{2447094569633395205, []int{1, 2, 3, 4, 5, 6, 7, 8}},
	} {
		if got := draws.Key(c.parts...); got != c.want {
			t.Errorf("Key(%v) = %d, not %d", c.parts, got, c.want)
		}
	}
	if draws.Key() != 0 || draws.Key(1, 2) != 13608149317741381227 {
		t.Error("parts that are passed one by one")
	}
}

func TestKeyIsAsDefined(t *testing.T) {
	for n := range len(ints) + 1 {
		parts := slices.Clone(ints[:n])
		if got, want := draws.Key(parts...), slowKey(parts); got != want {
			t.Errorf("Key(%v) = %d, not %d", parts, got, want)
		}
		if !slices.Equal(parts, ints[:n]) {
			t.Error("Key changed its parts:", parts)
		}
	}
	if got, want := draws.Key(numbers(5000)...), slowKey(numbers(5000)); got != want {
		t.Errorf("Key of many: %d, not %d", got, want)
	}
}

func TestDrawsYieldsAtInOrder(t *testing.T) {
	for _, seed := range seeds {
		for _, from := range []int{0, 1, 5, 1000, -1, -3, 1 << 40, -1 << 62, math.MinInt} {
			n := 0
			for i, u := range draws.Draws(seed, from) {
				if i != from+n || u != draws.At(seed, i) {
					t.Fatalf("Draws(%d, %d): %d, %d after %d", seed, from, i, u, n)
				}
				if n++; n == 50 {
					break
				}
			}
			if n != 50 {
				t.Errorf("Draws(%d, %d) yields %d", seed, from, n)
			}
		}
	}
}

func TestDrawsEndsAtTwoToThe62(t *testing.T) {
	for from, want := range map[int]int{1<<62 - 3: 4, 1<<62 - 1: 2, 1 << 62: 1, 1<<62 + 1: 0, math.MaxInt - 1: 0, math.MaxInt: 0} {
		n := 0
		for i, u := range draws.Draws(7, from) {
			if i != from+n || u != draws.At(7, i) {
				t.Errorf("Draws(7, %d): %d, %d", from, i, u)
			}
			if n++; n > want {
				break
			}
		}
		if n != want {
			t.Errorf("Draws(7, %d) yields %d, not %d", from, n, want)
		}
	}
}

// firstOf is the first pair that is yielded.
func firstOf(l iter.Seq2[int, uint64]) (int, uint64) {
	for i, u := range l {
		return i, u
	}
	return -1, 0
}

func TestDrawsBeginsAnew(t *testing.T) {
	l := draws.Draws(7, 3)
	for range 3 {
		if i, u := firstOf(l); i != 3 || u != draws.At(7, 3) {
			t.Error("ranged over again:", i, u)
		}
	}
	n := 0
	for i := range l {
		inner, _ := firstOf(l)
		if i != 3+n || inner != 3 {
			t.Fatal("ranged over while it is ranged over:", i, inner)
		}
		if n++; n == 4 {
			break
		}
	}
}

// P5.2: Source.

func TestNextIsOneAfterTheOther(t *testing.T) {
	for _, seed := range seeds {
		s := draws.New(seed)
		for i := range 100 {
			expect(t, "source", s, seed, i)
			if u := s.Next(); u != slowAt(seed, i) {
				t.Fatalf("seed %d: the %dth is %d, not %d", seed, i, u, slowAt(seed, i))
			}
		}
		expect(t, "source", s, seed, 100)
	}
}

func TestBelowIsNextModulo(t *testing.T) {
	for _, seed := range seeds {
		s := draws.New(seed)
		drawn := 0
		for range 20 {
			for _, n := range append(ints, 4, 5, 6, 10, 255, 256, 1023, 1024) {
				want := 0
				if n >= 1 {
					u := new(big.Int).SetUint64(slowAt(seed, drawn))
					want = int(u.Mod(u, big.NewInt(int64(n))).Int64())
					drawn++
				}
				if got := s.Below(n); got != want {
					t.Fatalf("seed %d: Below(%d) = %d, not %d", seed, n, got, want)
				}
				expect(t, "Below("+strconv.Itoa(n)+")", s, seed, drawn)
			}
		}
	}
}

func TestBelowKnownNumbers(t *testing.T) {
	for seed, want := range map[uint64][]int{
		0: {0, 0, 1, 4, 1, 6038094601263162090, 3207296026000306913},
		7: {0, 0, 0, 3, 4, 4601199455465548305, 4020523288995483894},
	} {
		s := draws.New(seed)
		for k, n := range []int{1, 2, 3, 10, 6, math.MaxInt, 1 << 62} {
			if got := s.Below(n); got != want[k] {
				t.Errorf("seed %d: Below(%d) = %d, not %d", seed, n, got, want[k])
			}
		}
	}
}

func TestBelowWithoutAChoice(t *testing.T) {
	s := draws.New(7)
	for _, n := range []int{0, -1, -1024, math.MinInt, math.MinInt + 1} {
		if got := s.Below(n); got != 0 {
			t.Errorf("Below(%d) = %d", n, got)
		}
		expect(t, "less than 1", s, 7, 0)
	}
	if got := s.Below(1); got != 0 {
		t.Error("Below(1):", got)
	}
	expect(t, "Below(1) draws", s, 7, 1)
}

func TestForkGoesItsOwnWay(t *testing.T) {
	s := draws.New(7)
	atOnce := s.Fork()
	s.Next()
	s.Below(3)
	fork := s.Fork()
	expect(t, "the first fork", atOnce, 7, 0)
	expect(t, "the second fork", fork, 7, 2)
	fork.Next()
	expect(t, "the source, after its fork drew", s, 7, 2)
	expect(t, "the fork", fork, 7, 3)
	ofFork := fork.Fork()
	draws.Shuffle(s, numbers(6))
	expect(t, "the source, shuffling", s, 7, 7)
	expect(t, "the fork, after its source shuffled", fork, 7, 3)
	ofFork.Below(9)
	expect(t, "the fork of the fork", ofFork, 7, 4)
	expect(t, "the fork, after its own fork drew", fork, 7, 3)
}

func TestSourcesGoTheirOwnWays(t *testing.T) {
	a, b, other := draws.New(7), draws.New(7), draws.New(8)
	a.Next()
	a.Next()
	other.Next()
	expect(t, "a", a, 7, 2)
	expect(t, "b", b, 7, 0)
	expect(t, "other", other, 8, 1)
}

func TestSourceThatIsNotMade(t *testing.T) {
	for what, s := range notMade() {
		for range 3 {
			if u := s.Next(); u != 0 {
				t.Errorf("%s: Next %d", what, u)
			}
			for _, n := range ints {
				if got := s.Below(n); got != 0 {
					t.Errorf("%s: Below(%d) %d", what, n, got)
				}
			}
			if n := s.Count(); n != 0 {
				t.Errorf("%s: Count %d", what, n)
			}
			if f := s.Fork(); f != nil {
				t.Errorf("%s: Fork %v", what, f)
			}
		}
	}
}

// P5.3: Shuffle.

func TestShuffleKnownOrders(t *testing.T) {
	for _, c := range []struct {
		seed    uint64
		l, want []int
	}{
		{7, []int{1, 2, 3, 4, 5}, []int{5, 2, 4, 1, 3}},
		{0, []int{0, 1, 2, 3, 4, 5, 6, 7, 8, 9}, []int{6, 3, 2, 9, 8, 1, 4, 7, 0, 5}},
		{math.MaxUint64, []int{0, 1, 2, 3, 4, 5, 6, 7}, []int{7, 3, 5, 4, 2, 6, 1, 0}},
		{1, []int{0, 1}, []int{0, 1}},
	} {
		if got := draws.Shuffle(draws.New(c.seed), c.l); !slices.Equal(got, c.want) {
			t.Errorf("seed %d: %v, not %v", c.seed, got, c.want)
		}
	}
}

func TestShuffleIsAsDefined(t *testing.T) {
	for _, seed := range seeds {
		s := draws.New(seed)
		drawn := 0
		for n := range 40 {
			want, more := slowShuffle(seed, drawn, numbers(n))
			if got := draws.Shuffle(s, numbers(n)); !slices.Equal(got, want) {
				t.Errorf("seed %d, %d drawn: %v, not %v", seed, drawn, got, want)
			}
			drawn += more
			expect(t, "shuffled", s, seed, drawn)
		}
	}
	want, _ := slowShuffle(3, 0, numbers(5000))
	if !slices.Equal(draws.Shuffle(draws.New(3), numbers(5000)), want) {
		t.Error("a long one")
	}
}

func TestShuffleWithoutDraws(t *testing.T) {
	for what, s := range notMade() {
		for n := range 10 {
			l := numbers(n)
			got := draws.Shuffle(s, l)
			if !slices.Equal(got, numbers(n)) {
				t.Errorf("%s: %v", what, got)
			}
			for i := range got {
				got[i] = -1
			}
			if !slices.Equal(l, numbers(n)) {
				t.Errorf("%s: shares its memory with what it was given", what)
			}
		}
		if got := draws.Shuffle(s, []string(nil)); len(got) != 0 {
			t.Errorf("%s: %v", what, got)
		}
	}
}

func TestShuffleOfFewElements(t *testing.T) {
	s := draws.New(7)
	for _, l := range [][]string{nil, {}, {"a"}} {
		if got := draws.Shuffle(s, l); !slices.Equal(got, l) {
			t.Errorf("%v: %v", l, got)
		}
		expect(t, "nothing to exchange", s, 7, 0)
	}
	draws.Shuffle(s, []string{"a", "b"})
	expect(t, "two", s, 7, 1)
}

func TestShuffleIsNewMemory(t *testing.T) {
	room := numbers(20)
	l := room[5:10]
	a := draws.Shuffle(draws.New(7), l)
	b := draws.Shuffle(draws.New(7), l)
	_ = append(a, 99, 99, 99)
	for i := range a {
		a[i] = -1
	}
	if !slices.Equal(room, numbers(20)) {
		t.Error("Shuffle changed what it was given, or shares it:", room)
	}
	if want := draws.Shuffle(draws.New(7), l); !slices.Equal(b, want) {
		t.Error("two shuffles share their memory:", b, want)
	}
	_ = append(draws.Shuffle(draws.New(7), room[:0]), 99)
	if room[0] != 0 {
		t.Error("a shuffle of nothing shares what lies behind it")
	}
}

func TestShuffleOfAnyType(t *testing.T) {
	order := draws.Shuffle(draws.New(7), numbers(4))
	words := draws.Shuffle(draws.New(7), []string{"a", "b", "c", "d"})
	pairs := draws.Shuffle(draws.New(7), [][2]any{{0, nil}, {1, 'b'}, {2, "c"}, {3, 4.5}})
	calls := draws.Shuffle(draws.New(7), []func() int{func() int { return 0 }, func() int { return 1 }, func() int { return 2 }, func() int { return 3 }})
	for i, k := range order {
		if words[i] != "abcd"[k:k+1] || pairs[i][0] != k || calls[i]() != k {
			t.Error(i, k, words[i], pairs[i], calls[i]())
		}
	}
	s := draws.New(7)
	if got := draws.Shuffle(s, make([]struct{}, 4)); len(got) != 4 {
		t.Error("elements without a size:", len(got))
	}
	expect(t, "elements without a size", s, 7, 3)
}

// P5.4: permutation.

func TestShuffleKeepsElementsAndDrawsByLength(t *testing.T) {
	for n := range 130 {
		many := make([]int, n) // of three sorts
		same := make([]int, n)
		for i := range many {
			many[i] = i % 3
		}
		for _, l := range [][]int{numbers(n), many, same} {
			for _, seed := range seeds {
				s := draws.New(seed)
				got := draws.Shuffle(s, l)
				if !slices.Equal(slices.Sorted(slices.Values(got)), slices.Sorted(slices.Values(l))) {
					t.Fatalf("%v is no order of %v", got, l)
				}
				if s.Count() != max(n-1, 0) {
					t.Fatalf("%d elements: %d draws", n, s.Count())
				}
			}
		}
	}
}

func TestShufflesReachEveryOrder(t *testing.T) {
	seen := make(map[[4]int]int)
	for seed := range 2400 {
		seen[[4]int(draws.Shuffle(draws.New(uint64(seed)), numbers(4)))]++
	}
	if len(seen) != 24 {
		t.Errorf("%d orders of 4 elements, not 24", len(seen))
	}
	for order, n := range seen {
		if n < 50 || n > 150 {
			t.Errorf("%v: %d times of 2400", order, n)
		}
	}
}

func FuzzSourceAgrees(f *testing.F) {
	f.Add(uint64(0), 0, []byte("abc"))
	f.Add(uint64(math.MaxUint64), -1, []byte{0, 0, 255, 1, 9, 200, 7})
	f.Add(uint64(step), math.MinInt, []byte{})
	f.Fuzz(func(t *testing.T, seed uint64, n int, b []byte) {
		if got, want := draws.At(seed, n), slowAt(seed, n); got != want {
			t.Errorf("At(%d, %d) = %d, not %d", seed, n, got, want)
		}
		if got, want := draws.Key(n, int(seed), len(b)), slowKey([]int{n, int(seed), len(b)}); got != want {
			t.Errorf("Key(%d, %d, %d) = %d, not %d", n, int(seed), len(b), got, want)
		}
		s := draws.New(seed)
		below := s.Below(n)
		if n < 1 && (below != 0 || s.Count() != 0) || n >= 1 && (below != int(slowAt(seed, 0)%uint64(n)) || s.Count() != 1) {
			t.Errorf("Below(%d): %d, %d drawn", n, below, s.Count())
		}
		want, more := slowShuffle(seed, s.Count(), b)
		drawn := s.Count() + more
		if got := draws.Shuffle(s, b); !bytes.Equal(got, want) {
			t.Errorf("Shuffle(%v): %v, not %v", b, got, want)
		}
		expect(t, "shuffled", s, seed, drawn)
	})
}
