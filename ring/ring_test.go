package ring_test

import (
	"bytes"
	"math"
	"slices"
	"strconv"
	"testing"

	"nozzle/api"
	"nozzle/ring"
)

// notRooms are numbers with which there is no ring.
var notRooms = []int{0, -1, -1024, math.MinInt, 1025, 1026, 2048, math.MaxInt}

// notMade are rings that New did not make.
func notMade() map[string]*ring.Ring[string] {
	_, _ = ring.New[string](3) // a ring elsewhere makes nothing of these
	none, _ := ring.New[string](0)
	return map[string]*ring.Ring[string]{"nil": nil, "zero": {}, "new": new(ring.Ring[string]), "refused": none}
}

// filled is a ring with these elements.
func filled[T any](t *testing.T, room int, l ...T) *ring.Ring[T] {
	t.Helper()
	r, e := ring.New[T](room)
	if e != api.OK || r == nil {
		t.Fatalf("New(%d): %d", room, e)
	}
	if e := r.Push(l...); e != api.OK {
		t.Fatalf("Push(%v) with room %d: %d", l, room, e)
	}
	return r
}

// expect asks everything that a ring tells without changing it.
func expect[T comparable](t *testing.T, what string, r *ring.Ring[T], room int, want ...T) {
	t.Helper()
	if got := r.List(); !slices.Equal(got, want) {
		t.Errorf("%s: List is %v, not %v", what, got, want)
	}
	if r.Len() != len(want) || r.Room() != room-len(want) {
		t.Errorf("%s: Len %d, Room %d, not %d, %d", what, r.Len(), r.Room(), len(want), room-len(want))
	}
	var got []T
	for i, x := range r.All() {
		if i != len(got) {
			t.Errorf("%s: All yields index %d, not %d", what, i, len(got))
		}
		got = append(got, x)
	}
	if !slices.Equal(got, want) {
		t.Errorf("%s: All yields %v, not %v", what, got, want)
	}
	for i, w := range want {
		if x, ok := r.Peek(i); x != w || !ok {
			t.Errorf("%s: Peek(%d) = %v, %v, not %v", what, i, x, ok, w)
		}
	}
	var zero T
	for _, i := range []int{-1, -len(want), -len(want) - 1, math.MinInt, len(want), len(want) + 1, room, 1024, math.MaxInt} {
		if i >= 0 && i < len(want) {
			continue
		}
		if x, ok := r.Peek(i); x != zero || ok {
			t.Errorf("%s: Peek(%d) = %v, %v", what, i, x, ok)
		}
	}
}

func isEven(n int) bool { return n%2 == 0 }

// changes are calls that change a ring.
func changes() map[string]func(*ring.Ring[int]) {
	return map[string]func(*ring.Ring[int]){
		"Push":   func(r *ring.Ring[int]) { r.Push(9) },
		"Pop":    func(r *ring.Ring[int]) { r.Pop() },
		"Rotate": func(r *ring.Ring[int]) { r.Rotate(1) },
		"Drop":   func(r *ring.Ring[int]) { r.Drop(isEven) },
		"Clear":  func(r *ring.Ring[int]) { r.Clear() },
		"all": func(r *ring.Ring[int]) {
			r.Clear()
			r.Push(5, 5, 5, 5, 5, 5)
		},
	}
}

// numbers are from, from + 1 and so on, below to.
func numbers(from, to int) []int {
	var out []int
	for n := from; n < to; n++ {
		out = append(out, n)
	}
	return out
}

// P4.1: New.

func TestNewIsEmpty(t *testing.T) {
	for _, room := range []int{1, 2, 3, 100, 1023, 1024} {
		r, e := ring.New[int](room)
		if e != api.OK || r == nil {
			t.Fatalf("New(%d): %d", room, e)
		}
		expect(t, "new", r, room)
		if x, ok := r.Pop(); x != 0 || ok {
			t.Errorf("Pop of a new ring: %d, %v", x, ok)
		}
	}
}

func TestNewRefusesOtherRooms(t *testing.T) {
	for _, room := range notRooms {
		if r, e := ring.New[int](room); r != nil || e != api.ErrRing {
			t.Errorf("New(%d): %v, %d", room, r, e)
		}
		if r, e := ring.New[[]string](room); r != nil || e != api.ErrRing {
			t.Errorf("New(%d) of slices: %v, %d", room, r, e)
		}
	}
}

func TestRingsAreApart(t *testing.T) {
	a, b := filled(t, 3, 1, 2), filled(t, 3, 8, 9)
	a.Push(3)
	b.Pop()
	expect(t, "the one", a, 3, 1, 2, 3)
	expect(t, "the other", b, 3, 9)
}

// P4.1: Push.

func TestPushAppendsInOrder(t *testing.T) {
	r := filled[string](t, 6)
	for _, c := range []struct{ l, want []string }{
		{nil, nil},
		{[]string{"a"}, []string{"a"}},
		{[]string{}, []string{"a"}},
		{[]string{"b", "c", "a"}, []string{"a", "b", "c", "a"}},
		{[]string{""}, []string{"a", "b", "c", "a", ""}},
		{[]string{"d"}, []string{"a", "b", "c", "a", "", "d"}},
		{nil, []string{"a", "b", "c", "a", "", "d"}}, // nothing finds room also in a full one
	} {
		if e := r.Push(c.l...); e != api.OK {
			t.Errorf("Push(%q): %d", c.l, e)
		}
		expect(t, "pushed", r, 6, c.want...)
	}
}

func TestPushPushesAllOrNothing(t *testing.T) {
	for _, c := range []struct {
		room      int
		have, add []int
		want      api.Errno
	}{
		{1, nil, []int{1}, api.OK},
		{1, nil, []int{1, 2}, api.ErrFull},
		{1, []int{1}, []int{2}, api.ErrFull},
		{4, []int{1, 2, 3}, []int{4}, api.OK},
		{4, []int{1, 2, 3}, []int{4, 5}, api.ErrFull},
		{4, []int{1, 2, 3, 4}, []int{5}, api.ErrFull},
		{4, []int{1, 2, 3, 4}, []int{5, 6, 7, 8, 9}, api.ErrFull},
		{4, nil, []int{1, 2, 3, 4}, api.OK},
		{4, nil, []int{1, 2, 3, 4, 5}, api.ErrFull},
		{1024, nil, numbers(0, 1024), api.OK},
		{1024, nil, numbers(0, 1025), api.ErrFull},
		{1024, numbers(0, 1023), []int{1023}, api.OK},
		{1024, numbers(0, 1023), []int{1023, 1024}, api.ErrFull},
		{1024, numbers(0, 1024), []int{1024}, api.ErrFull},
		{1023, numbers(0, 1023), []int{1023}, api.ErrFull},
		{1, nil, numbers(0, 1<<20), api.ErrFull},
	} {
		r := filled(t, c.room, c.have...)
		want := c.have
		if c.want == api.OK {
			want = slices.Concat(c.have, c.add)
		}
		if e := r.Push(c.add...); e != c.want {
			t.Errorf("room %d, %d elements, Push of %d: %d", c.room, len(c.have), len(c.add), e)
		}
		expect(t, "after Push", r, c.room, want...)
	}
}

func TestPushFindsTheRoomThatWasLeft(t *testing.T) {
	r := filled(t, 3, 1, 2, 3)
	for n := 4; n < 5000; n++ {
		if e := r.Push(n); e != api.ErrFull {
			t.Fatalf("Push(%d) into a full ring: %d", n, e)
		}
		if x, ok := r.Pop(); x != n-3 || !ok {
			t.Fatalf("Pop: %d, %v, not %d", x, ok, n-3)
		}
		if e := r.Push(n, n); e != api.ErrFull {
			t.Fatalf("Push of two where one finds room: %d", e)
		}
		if e := r.Push(n); e != api.OK {
			t.Fatalf("Push(%d): %d", n, e)
		}
	}
	expect(t, "at the end", r, 3, 4997, 4998, 4999)
}

func TestPushNeitherKeepsNorChangesItsArguments(t *testing.T) {
	room := []int{1, 2, 3, 7, 8, 9}
	l := room[:3]
	r := filled(t, 6, l...)
	r.Push(l...)
	if !slices.Equal(room, []int{1, 2, 3, 7, 8, 9}) {
		t.Error("Push wrote into its arguments:", room)
	}
	clear(room)
	expect(t, "after a change of the arguments", r, 6, 1, 2, 3, 1, 2, 3)
	r.Rotate(1)
	r.Pop()
	r.Push(5)
	if !slices.Equal(room, make([]int, 6)) {
		t.Error("the ring wrote into what was pushed:", room)
	}
}

// P4.1: Pop and Peek.

func TestPopRemovesTheFirst(t *testing.T) {
	r := filled(t, 3, "a", "b", "c")
	for i, want := range []string{"a", "b", "c"} {
		if x, ok := r.Pop(); x != want || !ok {
			t.Errorf("Pop: %q, %v, not %q", x, ok, want)
		}
		expect(t, "after Pop", r, 3, []string{"b", "c"}[min(i, 2):]...)
	}
	for range 3 {
		if x, ok := r.Pop(); x != "" || ok {
			t.Errorf("Pop of nothing: %q, %v", x, ok)
		}
		expect(t, "after Pop of nothing", r, 3)
	}
	if e := r.Push("d", "e", "f"); e != api.OK {
		t.Error(e)
	}
	expect(t, "filled again", r, 3, "d", "e", "f")
}

func TestPopTellsAZeroElementFromNone(t *testing.T) {
	r := filled(t, 2, 0)
	if x, ok := r.Pop(); x != 0 || !ok {
		t.Error(x, ok)
	}
	if x, ok := r.Pop(); x != 0 || ok {
		t.Error(x, ok)
	}
}

func TestPeekChangesNothing(t *testing.T) {
	r := filled(t, 4, 5, 6, 7)
	for range 2 {
		for i, want := range []int{5, 6, 7} {
			if x, ok := r.Peek(i); x != want || !ok {
				t.Errorf("Peek(%d) = %d, %v", i, x, ok)
			}
		}
	}
	expect(t, "after Peek", r, 4, 5, 6, 7)
}

func TestPeekAfterRotationsAndPops(t *testing.T) {
	r := filled(t, 4, 1, 2, 3, 4)
	r.Rotate(3)
	r.Pop()
	r.Push(5)
	expect(t, "over the end", r, 4, 1, 2, 3, 5)
}

// P4.2: Rotate.

// rotated are elements after the first one went to the end n times, n not below 0.
func rotated(l []int, n int) []int {
	for range n {
		l = append(slices.Clone(l[1:]), l[0])
	}
	return l
}

func TestRotateOfTheDocument(t *testing.T) {
	r := filled(t, 3, 1, 2, 3)
	if n := r.Rotate(-1); n != 2 {
		t.Error(n)
	}
	expect(t, "rotated", r, 3, 3, 1, 2)
}

func TestRotateIsModuloTheNumberOfElements(t *testing.T) {
	for _, have := range []int{1, 2, 3, 5, 7} {
		for n := -20; n <= 20; n++ {
			want := ((n % have) + have) % have
			for _, room := range []int{have, have + 1, 1024} {
				r := filled(t, room, numbers(1, have+1)...)
				if got := r.Rotate(n); got != want {
					t.Errorf("%d elements, Rotate(%d) = %d, not %d", have, n, got, want)
				}
				expect(t, "rotated", r, room, rotated(numbers(1, have+1), want)...)
			}
		}
	}
}

func TestRotateByTheGreatestNumbers(t *testing.T) {
	for _, c := range []struct{ have, n, want int }{
		{1, math.MaxInt, 0},
		{1, math.MinInt, 0},
		{2, math.MaxInt, 1},
		{2, math.MinInt, 0},
		{3, math.MaxInt, 1}, // 2^63 is 2 modulo 3
		{3, math.MinInt, 1},
		{3, math.MinInt + 1, 2},
		{1024, math.MaxInt, 1023},
		{1024, math.MinInt, 0},
		{1024, math.MinInt + 1, 1},
		{1024, 1023, 1023},
		{1024, 1024, 0},
		{1024, -1, 1023},
	} {
		r := filled(t, 1024, numbers(0, c.have)...)
		if got := r.Rotate(c.n); got != c.want {
			t.Errorf("%d elements, Rotate(%d) = %d, not %d", c.have, c.n, got, c.want)
		}
		expect(t, "rotated", r, 1024, rotated(numbers(0, c.have), c.want)...)
	}
}

func TestRotateOfAnEmptyRing(t *testing.T) {
	for _, n := range []int{0, 1, -1, 5, math.MaxInt, math.MinInt} {
		r := filled[int](t, 3)
		if got := r.Rotate(n); got != 0 {
			t.Errorf("never filled, Rotate(%d) = %d", n, got)
		}
		expect(t, "never filled", r, 3)
		r.Push(1)
		r.Pop()
		if got := r.Rotate(n); got != 0 {
			t.Errorf("empty again, Rotate(%d) = %d", n, got)
		}
		expect(t, "empty again", r, 3)
	}
}

// P4.2: Drop.

func TestDropRemovesAndKeepsTheOrder(t *testing.T) {
	for _, c := range []struct {
		have []int
		is   func(int) bool
		want []int
	}{
		{nil, isEven, nil},
		{[]int{1}, isEven, []int{1}},
		{[]int{2}, isEven, nil},
		{[]int{3, 2, 1, 4, 5, 2}, isEven, []int{3, 1, 5}},
		{[]int{2, 2, 3, 1}, isEven, []int{3, 1}},
		{[]int{3, 1, 2, 2}, isEven, []int{3, 1}},
		{[]int{3, 2, 1}, func(int) bool { return true }, nil},
		{[]int{3, 2, 1}, func(int) bool { return false }, []int{3, 2, 1}},
		{[]int{3, 2, 1, 2, 3}, func(n int) bool { return n == 2 }, []int{3, 1, 3}},
		{numbers(0, 1024), func(n int) bool { return n >= 3 }, []int{0, 1, 2}},
	} {
		for _, room := range []int{max(len(c.have), 1), 1024} {
			r := filled(t, room, c.have...)
			if got := r.Drop(c.is); got != len(c.have)-len(c.want) {
				t.Errorf("Drop of %v: %d", c.have, got)
			}
			expect(t, "after Drop", r, room, c.want...)
		}
	}
}

func TestDropLeavesRoom(t *testing.T) {
	r := filled(t, 4, 1, 2, 3, 4)
	r.Rotate(1) // 2 3 4 1
	r.Pop()
	r.Push(5) // 3 4 1 5
	if n := r.Drop(isEven); n != 1 {
		t.Error(n)
	}
	if e := r.Push(6, 7); e != api.ErrFull {
		t.Error(e)
	}
	if e := r.Push(6); e != api.OK {
		t.Error(e)
	}
	expect(t, "filled again", r, 4, 3, 1, 5, 6)
}

func TestDropAsksForEachElementOnce(t *testing.T) {
	r := filled(t, 5, 4, 5, 6, 5)
	asked := map[int]int{}
	r.Drop(func(n int) bool {
		asked[n]++
		return n == 5
	})
	if len(asked) != 3 || asked[4] != 1 || asked[5] != 2 || asked[6] != 1 {
		t.Error(asked)
	}
}

func TestDropWithoutAFunction(t *testing.T) {
	r := filled(t, 3, 1, 2)
	if n := r.Drop(nil); n != 0 {
		t.Error(n)
	}
	expect(t, "after Drop", r, 3, 1, 2)
	empty := filled[int](t, 3)
	if n := empty.Drop(nil); n != 0 {
		t.Error(n)
	}
}

func TestDropKeepsThatForWhichItsFunctionPanics(t *testing.T) {
	for _, with := range []any{"text", nil, api.ErrArg} {
		r := filled(t, 5, 1, 2, 3, 4, 5)
		n := r.Drop(func(n int) bool {
			if n == 3 {
				panic(with)
			}
			return n%2 == 1
		})
		if n != 2 {
			t.Errorf("panic(%v): %d", with, n)
		}
		expect(t, "after Drop", r, 5, 2, 3, 4)
	}
	r := filled(t, 5, 1, 2, 3)
	if n := r.Drop(func(int) bool { panic("always") }); n != 0 {
		t.Error(n)
	}
	expect(t, "after Drop", r, 5, 1, 2, 3)
}

func TestDropWhoseFunctionLooksAtTheRing(t *testing.T) {
	r := filled(t, 4, 1, 2, 3, 4)
	r.Drop(func(n int) bool {
		expect(t, "while it drops", r, 4, 1, 2, 3, 4)
		return n%2 == 1
	})
	expect(t, "after Drop", r, 4, 2, 4)
}

func TestDropWhoseFunctionChangesTheRing(t *testing.T) {
	for what, change := range changes() {
		r := filled(t, 6, 1, 2, 3, 4)
		gone := r.Drop(func(n int) bool {
			change(r)
			return n == 2
		})
		if gone != 1 || r.Len()+r.Room() != 6 || r.Len() > 6 || len(r.List()) != r.Len() {
			t.Errorf("%s: %d gone, Len %d, Room %d, List %v", what, gone, r.Len(), r.Room(), r.List())
		}
		// It goes on as a ring does.
		r.Clear()
		r.Push(5, 6)
		expect(t, what, r, 6, 5, 6)
	}
}

// P4.2: Clear.

func TestClearRemovesAll(t *testing.T) {
	r := filled(t, 3, 1, 2, 3)
	for range 2 {
		r.Clear()
		expect(t, "cleared", r, 3)
		if x, ok := r.Pop(); x != 0 || ok {
			t.Error(x, ok)
		}
	}
	if e := r.Push(4, 5, 6, 7); e != api.ErrFull {
		t.Error(e)
	}
	if e := r.Push(4, 5, 6); e != api.OK {
		t.Error(e)
	}
	expect(t, "filled again", r, 3, 4, 5, 6)
}

// P4.3: List and All. (Len and Room: expect asks for them everywhere.)

func TestListIsACopy(t *testing.T) {
	r := filled(t, 6, 1, 2, 3)
	one, two := r.List(), r.List()
	clear(one)
	_ = append(two, 8, 9)
	r.Push(4)
	expect(t, "after a change of a list", r, 6, 1, 2, 3, 4)
	r.Pop()
	r.Rotate(2)
	r.Drop(isEven)
	r.Clear()
	if !slices.Equal(two, []int{1, 2, 3}) {
		t.Error("a list changed with the ring:", two)
	}
}

func TestAllIsStopped(t *testing.T) {
	r := filled(t, 5, "a", "b", "c", "d")
	for leave := 1; leave <= 4; leave++ {
		var got []string
		r.All()(func(i int, x string) bool {
			got = append(got, strconv.Itoa(i)+x)
			return len(got) < leave
		})
		if want := []string{"0a", "1b", "2c", "3d"}[:leave]; !slices.Equal(got, want) {
			t.Errorf("stopped at %d: %v", leave, got)
		}
	}
	for i := range r.All() {
		if i == 1 {
			break
		}
	}
	expect(t, "after it was stopped", r, 5, "a", "b", "c", "d")
}

func TestAllYieldsWhatThereWasWhenTheIterationBegan(t *testing.T) {
	for what, change := range changes() {
		r := filled(t, 6, 1, 2, 3, 4)
		var got []int
		for i, x := range r.All() {
			if i != len(got) {
				t.Errorf("%s: index %d, not %d", what, i, len(got))
			}
			got = append(got, x)
			change(r)
		}
		if !slices.Equal(got, []int{1, 2, 3, 4}) {
			t.Errorf("%s: %v", what, got)
		}
	}
}

func TestAllBeginsWhenItIsRangedOver(t *testing.T) {
	r := filled[int](t, 6)
	all := r.All()
	for _, c := range []struct{ add, want []int }{
		{nil, nil},
		{[]int{1, 2}, []int{1, 2}},
		{[]int{3}, []int{1, 2, 3}},
	} {
		r.Push(c.add...)
		for range 2 {
			var got []int
			for _, x := range all {
				got = append(got, x)
			}
			if !slices.Equal(got, c.want) {
				t.Errorf("%v, not %v", got, c.want)
			}
		}
	}
	// One inside the other: each has its own beginning.
	n := 0
	for range all {
		r.Push(7)
		for range all {
			n++
		}
	}
	if n != 4+5+6 {
		t.Error(n)
	}
}

// Wrong inputs: rings that New did not make.

func TestRingThatNewDidNotMake(t *testing.T) {
	for what, r := range notMade() {
		for range 2 {
			for _, l := range [][]string{nil, {}, {"a"}, {"a", "b"}} {
				if e := r.Push(l...); e != api.ErrNil {
					t.Errorf("%s: Push(%q): %d", what, l, e)
				}
			}
			if e := r.Push(make([]string, 1025)...); e != api.ErrNil {
				t.Errorf("%s: Push of many: %d", what, e)
			}
			if x, ok := r.Pop(); x != "" || ok {
				t.Errorf("%s: Pop: %q, %v", what, x, ok)
			}
			for _, n := range []int{-1, 0, 1, math.MinInt, math.MaxInt} {
				if x, ok := r.Peek(n); x != "" || ok {
					t.Errorf("%s: Peek(%d): %q, %v", what, n, x, ok)
				}
				if got := r.Rotate(n); got != 0 {
					t.Errorf("%s: Rotate(%d) = %d", what, n, got)
				}
			}
			if n := r.Drop(func(string) bool { t.Error(what, "has an element"); return true }); n != 0 {
				t.Errorf("%s: Drop: %d", what, n)
			}
			if n := r.Drop(nil); n != 0 {
				t.Errorf("%s: Drop(nil): %d", what, n)
			}
			r.Clear()
			if r.Len() != 0 || r.Room() != 0 || len(r.List()) != 0 {
				t.Errorf("%s: %d, %d, %q", what, r.Len(), r.Room(), r.List())
			}
			if r.All() == nil {
				t.Fatalf("%s: no iterator", what)
			}
			for i, x := range r.All() {
				t.Errorf("%s: All yields %d, %q", what, i, x)
			}
		}
	}
}

// P4.4: first in, first out.

func TestFirstInFirstOut(t *testing.T) {
	for _, room := range []int{1, 2, 3, 7, 64, 1023, 1024} {
		r := filled[int](t, room)
		in, out := 0, 0
		x := uint32(room)
		for range 5000 {
			x = x*1664525 + 1013904223
			add := int(x>>16) % (room + 1)
			if r.Push(numbers(in, in+add)...) == api.OK {
				in += add
			}
			x = x*1664525 + 1013904223
			for range int(x>>16) % (room + 1) {
				got, ok := r.Pop()
				if !ok {
					break
				}
				if got != out {
					t.Fatalf("room %d: %d came, not %d", room, got, out)
				}
				out++
			}
		}
		expect(t, "what is left", r, room, numbers(out, in)...)
		if out < 1000 {
			t.Errorf("room %d: hardly anything came: %d", room, out)
		}
	}
}

// P4.1 to P4.5: any calls in any order, against a slice.

// model is a ring as the document has it.
type model struct {
	room int
	list []byte
}

func (m *model) push(l []byte) api.Errno {
	if len(m.list)+len(l) > m.room {
		return api.ErrFull
	}
	m.list = slices.Concat(m.list, l)
	return api.OK
}

func (m *model) pop() (byte, bool) {
	if len(m.list) == 0 {
		return 0, false
	}
	first := m.list[0]
	m.list = m.list[1:]
	return first, true
}

func (m *model) rotate(n int) int {
	if len(m.list) == 0 {
		return 0
	}
	n = (n%len(m.list) + len(m.list)) % len(m.list)
	m.list = slices.Concat(m.list[n:], m.list[:n])
	return n
}

func (m *model) drop(is func(byte) bool) int {
	had := len(m.list)
	m.list = slices.DeleteFunc(slices.Clone(m.list), is)
	return had - len(m.list)
}

// expectAgrees does one thing to both, which two bytes choose.
func expectAgrees(t *testing.T, r *ring.Ring[byte], m *model, op, x byte) {
	t.Helper()
	switch op % 8 {
	case 0, 1, 2:
		l := bytes.Repeat([]byte{x}, int(op/8)%4)
		for i := range l {
			l[i] += byte(i)
		}
		if got, want := r.Push(l...), m.push(l); got != want {
			t.Errorf("Push(%v): %d, not %d", l, got, want)
		}
	case 3, 4:
		got, ok := r.Pop()
		if want, is := m.pop(); got != want || ok != is {
			t.Errorf("Pop: %d, %v, not %d, %v", got, ok, want, is)
		}
	case 5:
		if got, want := r.Rotate(int(int8(x))), m.rotate(int(int8(x))); got != want {
			t.Errorf("Rotate(%d): %d, not %d", int8(x), got, want)
		}
	case 6:
		is := func(y byte) bool { return y%8 == x%8 }
		if got, want := r.Drop(is), m.drop(is); got != want {
			t.Errorf("Drop: %d, not %d", got, want)
		}
	case 7:
		if x%4 == 0 {
			r.Clear()
			m.list = nil
		}
	}
	expect(t, "after a call", r, m.room, m.list...)
}

// FuzzRing: whatever is called, the ring is as the document says.
func FuzzRing(f *testing.F) {
	for seed := range uint32(40) {
		b := make([]byte, 401)
		x := seed
		for i := range b {
			x = x*1664525 + 1013904223
			b[i] = byte(x >> 24)
		}
		b[0] = byte(seed)
		f.Add(b)
	}
	f.Fuzz(func(t *testing.T, b []byte) {
		if len(b) == 0 {
			return
		}
		m := &model{room: 1 + int(b[0])%16}
		r := filled[byte](t, m.room)
		for pair := range slices.Chunk(b[1:], 2) {
			expectAgrees(t, r, m, pair[0], pair[len(pair)-1])
		}
	})
}

// P4.5: the bound.

func TestLenAndRoomAreTheRoom(t *testing.T) {
	for _, room := range []int{1, 2, 1023, 1024} {
		r := filled[int](t, room)
		for n := range 2 * room {
			if r.Len()+r.Room() != room || r.Len() != min(n, room) {
				t.Fatalf("room %d, %d pushed: Len %d, Room %d", room, n, r.Len(), r.Room())
			}
			want := api.OK
			if n >= room {
				want = api.ErrFull
			}
			if e := r.Push(n); e != want {
				t.Fatalf("room %d, Push(%d): %d", room, n, e)
			}
		}
		r.Rotate(room / 2)
		for n := room; n > 0; n-- {
			if r.Len()+r.Room() != room || r.Len() != n {
				t.Fatalf("room %d, %d left: Len %d, Room %d", room, n, r.Len(), r.Room())
			}
			r.Pop()
		}
		expect(t, "emptied", r, room)
	}
}

// Elements of all types.

func TestElementsOfAnyType(t *testing.T) {
	packets := filled(t, 2, api.Packet{Kind: api.Data, Payload: []byte("a")}, api.Packet{Kind: api.Pull})
	packets.Rotate(1)
	if p, ok := packets.Pop(); p.Kind != api.Pull || !ok {
		t.Error(p, ok)
	}
	if n := packets.Drop(func(p api.Packet) bool { return len(p.Payload) == 1 }); n != 1 {
		t.Error(n)
	}
	if p, ok := packets.Pop(); p.Kind != api.NoKind || p.Payload != nil || ok {
		t.Error(p, ok)
	}

	nothings := filled(t, 3, struct{}{}, struct{}{})
	expect(t, "elements without a size", nothings, 3, struct{}{}, struct{}{})
	if e := nothings.Push(struct{}{}, struct{}{}); e != api.ErrFull {
		t.Error(e)
	}

	calls := filled(t, 3, func() int { return 1 }, nil)
	if call, ok := calls.Peek(0); !ok || call() != 1 {
		t.Error("a function")
	}
	if n := calls.Drop(func(f func() int) bool { return f() == 1 }); n != 1 || calls.Len() != 1 {
		t.Error("the nil function panics when it is called, and stays:", n)
	}

	var x any = 1
	mixed := filled(t, 3, x, nil, "a")
	expect(t, "interfaces", mixed, 3, x, nil, "a")

	rings := filled(t, 2, filled(t, 1, 7))
	if r, ok := rings.Pop(); !ok || r.Len() != 1 {
		t.Error("a ring of rings")
	}
	if r, ok := rings.Pop(); ok || r != nil || r.Len() != 0 {
		t.Error("a ring of rings, empty")
	}
}
