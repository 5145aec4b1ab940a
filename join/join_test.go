package join_test

import (
	"bytes"
	"math"
	"slices"
	"testing"

	"nozzle/api"
	"nozzle/draws"
	"nozzle/join"
)

// text is n bytes, which no other seed gives.
func text(seed uint64, n int) []byte {
	out := make([]byte, n)
	for i := range out {
		out[i] = byte(draws.At(seed, i))
	}
	return out
}

// empty are the parts without bytes that there are.
func empty() [][]byte { return [][]byte{nil, {}, make([]byte, 0, 50), []byte("abc")[:0]} }

// notMade are Joins that neither New nor Fork made.
func notMade() map[string]*join.Join {
	join.New().Add([]byte("ab"), false) // a Join elsewhere makes nothing of these
	var zero join.Join
	var none *join.Join
	return map[string]*join.Join{"nil": nil, "zero": {}, "new": new(join.Join), "its fork": zero.Fork(), "fork of nil": none.Fork()}
}

// model does slowly, as the document says it, what a Join does.
type model struct {
	open     []byte
	parts    int
	messages [][]byte
}

func (m *model) add(part []byte, end bool) ([]byte, bool, api.Errno) {
	if len(part) == 0 {
		return nil, false, api.ErrJoin
	}
	if len(m.open)+len(part) > 65536 {
		return nil, false, api.ErrLong
	}
	for _, x := range part {
		m.open = append(m.open, x)
	}
	m.parts++
	if !end {
		return nil, false, api.OK
	}
	whole := m.open
	m.messages = append(m.messages, whole)
	m.reset()
	return whole, true, api.OK
}

func (m *model) reset() int {
	n := len(m.open)
	m.open, m.parts = nil, 0
	return n
}

func (m *model) bytes() int { return len(bytes.Join(m.messages, nil)) }

func (m *model) fork() *model {
	return &model{bytes.Clone(m.open), m.parts, slices.Clone(m.messages)}
}

// made is a Join, and the model of it.
func made(t *testing.T) (*join.Join, *model) {
	t.Helper()
	j := join.New()
	if j == nil {
		t.Fatal("New: nil")
	}
	return j, &model{}
}

// add adds a part to both, and answers the message that is whole by it.
func add(t *testing.T, j *join.Join, m *model, part []byte, end bool) []byte {
	t.Helper()
	got, ok, e := j.Add(part, end)
	want, wantOk, wantE := m.add(part, end)
	if !bytes.Equal(got, want) || ok != wantOk || e != wantE {
		t.Errorf("Add of %d bytes to %d, end %v: %d bytes, %v, %d, not %d bytes, %v, %d", len(part), len(m.open), end, len(got), ok, e, len(want), wantOk, wantE)
	}
	return got
}

// lengths are how many bytes Fits is asked for, with so many open.
func lengths(open int) []int {
	left := 65536 - open
	return []int{math.MinInt, math.MinInt + 1, -1 << 32, -65536, -2, -1, 0, 1, 2, 3, left - 1, left, left + 1, left + 2, open, open + 1, 65535, 65536, 65537, 1 << 32, 1<<32 + 1, math.MaxInt - 1, math.MaxInt}
}

// agree asks everything that a Join tells without changing it, and a fork of it what is open.
func agree(t *testing.T, what string, j *join.Join, m *model) {
	t.Helper()
	if j.Open() != len(m.open) || j.Parts() != m.parts {
		t.Errorf("%s: Open %d, Parts %d, not %d, %d", what, j.Open(), j.Parts(), len(m.open), m.parts)
	}
	if j.Messages() != len(m.messages) || j.Bytes() != m.bytes() {
		t.Errorf("%s: Messages %d, Bytes %d, not %d, %d", what, j.Messages(), j.Bytes(), len(m.messages), m.bytes())
	}
	for _, n := range lengths(len(m.open)) {
		if want := n >= 1 && n <= 65536-len(m.open); j.Fits(n) != want {
			t.Errorf("%s: Fits(%d) %v with %d open", what, n, j.Fits(n), len(m.open))
		}
	}
	f := j.Fork()
	got, ok, e := f.Add([]byte{77}, true)
	if len(m.open) == 65536 { // there is no room for what would show them
		if ok || e != api.ErrLong || len(got) != 0 {
			t.Errorf("%s: Add to all that may be open: %d bytes, %v, %d", what, len(got), ok, e)
		}
	} else if !ok || e != api.OK || !bytes.Equal(got, append(bytes.Clone(m.open), 77)) {
		t.Errorf("%s: %d bytes are open, %d, not %v", what, len(got)-1, e, len(m.open))
	}
}

// full is a Join in which so many bytes are open, in parts of at most size bytes.
func full(t *testing.T, n, size int) (*join.Join, *model) {
	t.Helper()
	j, m := made(t)
	for part := range slices.Chunk(text(uint64(n), n), size) {
		add(t, j, m, part, false)
	}
	return j, m
}

// P12.1: New, Add, Fits.

func TestExampleOfTheChapter(t *testing.T) {
	j := join.New()
	if m, ok, e := j.Add([]byte("ab"), false); len(m) != 0 || ok || e != api.OK {
		t.Error("ab:", m, ok, e)
	}
	if j.Open() != 2 || j.Parts() != 1 || j.Messages() != 0 || j.Bytes() != 0 {
		t.Error("between:", j.Open(), j.Parts(), j.Messages(), j.Bytes())
	}
	if m, ok, e := j.Add([]byte("c"), true); string(m) != "abc" || !ok || e != api.OK {
		t.Error("c:", m, ok, e)
	}
	if j.Open() != 0 || j.Parts() != 0 || j.Messages() != 1 || j.Bytes() != 3 {
		t.Error("behind:", j.Open(), j.Parts(), j.Messages(), j.Bytes())
	}
}

func TestNewHasNothingOpen(t *testing.T) {
	j, m := made(t)
	agree(t, "new", j, m)
	other := join.New()
	other.Add([]byte("ab"), false)
	other.Add([]byte("ab"), true)
	agree(t, "another was made", j, m)
	agree(t, "made later", join.New(), m)
}

func TestMessagesOfOnePart(t *testing.T) {
	j, m := made(t)
	for i, n := range []int{1, 2, 3, 255, 256, 1023, 1024, 1025, 65535, 65536, 1} {
		if got := add(t, j, m, text(uint64(i), n), true); !bytes.Equal(got, text(uint64(i), n)) {
			t.Errorf("a part of %d bytes: a message of %d", n, len(got))
		}
		agree(t, "one part", j, m)
	}
}

func TestWhatItsBytesAreMakesNoDifference(t *testing.T) {
	j, m := made(t)
	for _, part := range [][]byte{{0}, {255}, {0, 0, 0}, {255, 255}, []byte("\n\x00\xffé"), {0}} {
		add(t, j, m, part, false)
		agree(t, "some bytes", j, m)
	}
	add(t, j, m, []byte{0}, true)
	agree(t, "some bytes, whole", j, m)
}

func TestMessagesOneAfterTheOther(t *testing.T) {
	j, m := made(t)
	for i, s := range []string{"a", "bcd", "ef.", "g.", "h.", "ij", "kl", "m", "nopq."} {
		part, end := bytes.CutSuffix([]byte(s), []byte("."))
		add(t, j, m, part, end)
		if j.Messages() != []int{0, 0, 1, 2, 3, 3, 3, 3, 4}[i] || j.Bytes() != []int{0, 0, 6, 7, 8, 8, 8, 8, 17}[i] {
			t.Errorf("part %q: Messages %d, Bytes %d", s, j.Messages(), j.Bytes())
		}
		agree(t, s, j, m)
	}
}

func TestAPartWithoutBytesIsRefused(t *testing.T) {
	for _, open := range []int{0, 1, 5, 65535, 65536} {
		j, m := full(t, open, 1024)
		for _, part := range empty() {
			for _, end := range []bool{false, true} {
				if got, ok, e := j.Add(part, end); len(got) != 0 || ok || e != api.ErrJoin {
					t.Errorf("%d open, Add of nothing, end %v: %v, %v, %d", open, end, got, ok, e)
				}
				agree(t, "nothing added", j, m)
			}
		}
		add(t, j, m, []byte("z"), true)
		agree(t, "afterwards", j, m)
	}
}

func TestNoMoreThanMaxMessageIsOpen(t *testing.T) {
	for _, open := range []int{0, 1, 2, 1000, 32768, 65534, 65535, 65536} {
		left := 65536 - open
		for _, n := range []int{left + 1, left + 2, 65537, 70000, 1 << 17} {
			for _, end := range []bool{false, true} {
				j, m := full(t, open, 1000)
				if got, ok, e := j.Add(text(3, n), end); len(got) != 0 || ok || e != api.ErrLong {
					t.Errorf("%d open, Add of %d, end %v: %d bytes, %v, %d", open, n, end, len(got), ok, e)
				}
				agree(t, "refused", j, m)
				if left > 0 {
					add(t, j, m, text(4, left), end)
					agree(t, "filled", j, m)
				}
			}
		}
	}
}

func TestUpToMaxMessageFits(t *testing.T) {
	for _, open := range []int{0, 1, 2, 1000, 32768, 65534, 65535} {
		for _, n := range []int{1, 65536 - open - 1, 65536 - open} {
			for _, end := range []bool{false, true} {
				if n < 1 {
					continue
				}
				j, m := full(t, open, 1000)
				if _, ok, e := j.Add(text(5, n), end); ok != end || e != api.OK {
					t.Errorf("%d open, Add of %d, end %v: %v, %d", open, n, end, ok, e)
				}
				m.add(text(5, n), end)
				agree(t, "fits", j, m)
			}
		}
	}
}

// TestFitsTellsWhatAddTakes asks Fits ahead of each Add.
func TestFitsTellsWhatAddTakes(t *testing.T) {
	for _, open := range []int{0, 1, 3, 40000, 65533, 65535, 65536} {
		j, _ := full(t, open, 9999)
		for _, n := range lengths(open) {
			if n < 0 || n > 1<<17 {
				continue
			}
			f := j.Fork()
			if _, _, e := f.Add(make([]byte, n), n%2 == 0); (e == api.OK) != j.Fits(n) {
				t.Errorf("%d open, Fits(%d) %v, Add %d", open, n, j.Fits(n), e)
			}
		}
	}
}

func TestErrNilBeforeTheOthers(t *testing.T) {
	for what, j := range notMade() {
		for _, part := range append(empty(), []byte("a"), make([]byte, 65536), make([]byte, 65537)) {
			for _, end := range []bool{false, true} {
				if got, ok, e := j.Add(part, end); len(got) != 0 || ok || e != api.ErrNil {
					t.Errorf("%s, Add of %d bytes, end %v: %v, %v, %d", what, len(part), end, got, ok, e)
				}
			}
		}
	}
}

func TestAddKeepsAndChangesNoArgument(t *testing.T) {
	for _, end := range []bool{false, true} {
		j, m := made(t)
		room := text(1, 60)
		before := bytes.Clone(room)
		one, _, _ := j.Add(room[3:20], false)
		two, _, _ := j.Add(room[10:30], end)
		_ = append(one, 9, 9, 9) // there is room behind the part
		_ = append(two, 9, 9, 9)
		if !bytes.Equal(room, before) {
			t.Error("an argument changed:", room)
		}
		m.add(bytes.Clone(room[3:20]), false)
		m.add(bytes.Clone(room[10:30]), end)
		clear(room)
		agree(t, "the argument is cleared", j, m)
		if end && !bytes.Equal(two, m.messages[0]) {
			t.Error("a message changed with the argument:", two)
		}
	}
}

func TestMessagesShareNothing(t *testing.T) {
	j, m := made(t)
	a, b := text(1, 20), text(2, 20)
	first := add(t, j, m, bytes.Clone(a), true)
	add(t, j, m, bytes.Clone(b[:10]), false)
	second := add(t, j, m, bytes.Clone(b[10:]), true)
	add(t, j, m, bytes.Clone(a), false)
	before := j.Fork()
	_ = append(first, 9, 9, 9)
	clear(first[:cap(first)])
	if !bytes.Equal(second, b) {
		t.Error("the second message changed with the first:", second)
	}
	_ = append(second, 9, 9, 9)
	clear(second[:cap(second)])
	agree(t, "messages cleared", j, m)
	agree(t, "messages cleared, fork", before, m)
	if got := add(t, j, m, bytes.Clone(b), true); !bytes.Equal(got, append(bytes.Clone(a), b...)) {
		t.Error("what was open changed with a message:", got)
	}
}

// P12.2: the others.

func TestPartsCountsThoseOfTheOpenMessage(t *testing.T) {
	j, m := made(t)
	for n := range 200 {
		if j.Parts() != n%7 || j.Open() != n%7*3 || j.Messages() != n/7 || j.Bytes() != n/7*21 {
			t.Errorf("after %d parts: Parts %d, Open %d, Messages %d, Bytes %d", n, j.Parts(), j.Open(), j.Messages(), j.Bytes())
		}
		add(t, j, m, []byte("xyz"), n%7 == 6)
	}
	agree(t, "many parts", j, m)
}

func TestResetDiscardsWhatIsOpen(t *testing.T) {
	for _, open := range []int{0, 1, 2, 700, 65535, 65536} {
		for _, size := range []int{1, 3, 1024, 65536} {
			j, m := made(t)
			add(t, j, m, []byte("before"), true)
			for part := range slices.Chunk(text(6, open), size) {
				add(t, j, m, part, false)
			}
			if n := j.Reset(); n != open || j.Open() != 0 || j.Parts() != 0 || j.Messages() != 1 || j.Bytes() != 6 {
				t.Errorf("%d open: Reset %d, then Open %d, Parts %d, Messages %d, Bytes %d", open, n, j.Open(), j.Parts(), j.Messages(), j.Bytes())
			}
			m.reset()
			agree(t, "reset", j, m)
			if n := j.Reset(); n != 0 {
				t.Error("Reset again:", n)
			}
			add(t, j, m, []byte("be"), false)
			if got := add(t, j, m, []byte("hind"), true); string(got) != "behind" {
				t.Errorf("behind Reset: %q", got)
			}
			agree(t, "behind reset", j, m)
		}
	}
}

func TestForkGoesItsOwnWay(t *testing.T) {
	for _, open := range []int{0, 1, 2, 9, 65535} {
		for _, size := range []int{1, 4, 65536} {
			j, m := made(t)
			add(t, j, m, []byte("before"), true)
			for part := range slices.Chunk(text(8, open), size) {
				add(t, j, m, part, false)
			}
			f, fm := j.Fork(), m.fork()
			agree(t, "fork", f, fm)
			add(t, j, m, []byte("1"), false)
			add(t, f, fm, []byte("2"), false)
			agree(t, "each added", j, m)
			agree(t, "each added, fork", f, fm)
			g, gm := f.Fork(), fm.fork()
			f.Reset()
			fm.reset()
			add(t, g, gm, []byte("3"), true)
			agree(t, "fork reset", j, m)
			agree(t, "fork reset, fork", f, fm)
			agree(t, "fork reset, its fork", g, gm)
			add(t, j, m, []byte("4"), true)
			add(t, f, fm, []byte("56"), false)
			agree(t, "whole", j, m)
			agree(t, "whole, fork", f, fm)
			agree(t, "whole, its fork", g, gm)
		}
	}
}

// TestForkOfManyParts adds to both by turns, so that a list with room behind its end would be shared.
func TestForkOfManyParts(t *testing.T) {
	j, m := made(t)
	for i := range 70 {
		f, fm := j.Fork(), m.fork()
		g, gm := j.Fork(), m.fork()
		for k := range 3 {
			add(t, f, fm, []byte{1, byte(k), 1}, false)
			add(t, j, m, []byte{2, byte(i)}, false)
			add(t, g, gm, []byte{3}, false)
		}
		agree(t, "fork", f, fm)
		agree(t, "other fork", g, gm)
		agree(t, "itself", j, m)
	}
}

func TestNotMade(t *testing.T) {
	for what, j := range notMade() {
		for range 2 { // nor does any call make it one
			if j.Open() != 0 || j.Parts() != 0 || j.Messages() != 0 || j.Bytes() != 0 || j.Reset() != 0 {
				t.Errorf("%s: Open %d, Parts %d, Messages %d, Bytes %d, Reset %d", what, j.Open(), j.Parts(), j.Messages(), j.Bytes(), j.Reset())
			}
			for _, n := range lengths(0) {
				if j.Fits(n) {
					t.Errorf("%s: Fits(%d)", what, n)
				}
			}
			if f := j.Fork(); f != nil {
				t.Errorf("%s: Fork %v", what, f)
			}
			if got, ok, e := j.Add([]byte("a"), false); len(got) != 0 || ok || e != api.ErrNil {
				t.Errorf("%s: Add %v, %v, %d", what, got, ok, e)
			}
		}
	}
}

// TestACopiedValueDoesNotPanic: what it answers is not said, but it answers.
func TestACopiedValueDoesNotPanic(t *testing.T) {
	for count := range 9 {
		j, _ := full(t, count, 1)
		other := *j
		for range 4 {
			j.Add([]byte("abc"), false)
			other.Add([]byte("x"), false)
			j.Fork().Add([]byte("y"), true)
			other.Fork().Add([]byte("y"), true)
		}
		if _, ok, e := j.Add([]byte("z"), true); !ok || e != api.OK {
			t.Error(ok, e)
		}
		other.Reset()
	}
}

// P12.3: All.

// models is what All is to answer.
func models(parts [][]byte, ends []bool) ([][]byte, int, api.Errno) {
	m := &model{}
	for i, part := range parts {
		end := false
		if i < len(ends) {
			end = ends[i]
		}
		if _, _, e := m.add(part, end); e != api.OK {
			return m.messages, i, e
		}
	}
	return m.messages, len(parts), api.OK
}

// equal holds lists of messages against each other.
func equal(a, b [][]byte) bool { return slices.EqualFunc(a, b, bytes.Equal) }

// all holds All against the model of it.
func all(t *testing.T, parts [][]byte, ends []bool) ([][]byte, int, api.Errno) {
	t.Helper()
	l, n, e := join.All(parts, ends)
	if wantL, wantN, wantE := models(parts, ends); !equal(l, wantL) || n != wantN || e != wantE {
		t.Errorf("All of %d parts, %v: %d messages, %d, %d, not %d, %d, %d", len(parts), ends, len(l), n, e, len(wantL), wantN, wantE)
	}
	return l, n, e
}

// split are parts, one for each word.
func split(s string) [][]byte { return bytes.Fields([]byte(s)) }

func TestAllJoinsParts(t *testing.T) {
	for _, c := range []struct {
		parts string
		ends  []bool
		want  string
	}{
		{"", nil, ""},
		{"", []bool{true, true}, ""},
		{"a", nil, ""},
		{"a", []bool{false}, ""},
		{"a", []bool{true}, "a"},
		{"a b", []bool{true}, "a"},
		{"a b", []bool{false, true}, "ab"},
		{"a b", []bool{true, true}, "a b"},
		{"a b", []bool{false, true, true, true}, "ab"},
		{"ab c d ef", []bool{false, true, false, true}, "abc def"},
		{"ab c d ef", []bool{true, false, false}, "ab"},
		{"ab c d ef", []bool{false, false, true, false}, "abcd"},
	} {
		l, n, e := all(t, split(c.parts), c.ends)
		if !equal(l, split(c.want)) || n != len(split(c.parts)) || e != api.OK {
			t.Errorf("All(%q, %v): %q, %d, %d", c.parts, c.ends, l, n, e)
		}
	}
}

func TestAllOfEmptyArguments(t *testing.T) {
	for _, parts := range [][][]byte{nil, {}} {
		for _, ends := range [][]bool{nil, {}, {true}, {false, true}} {
			if l, n, e := join.All(parts, ends); len(l) != 0 || n != 0 || e != api.OK {
				t.Errorf("All(%v, %v): %v, %d, %d", parts, ends, l, n, e)
			}
		}
	}
}

// TestAllOfAllShortLists asks for lists of up to five parts, some of them empty, and all ends.
func TestAllOfAllShortLists(t *testing.T) {
	for count := range 6 {
		for lacking := range 1 << count {
			var parts [][]byte
			for i := range count {
				parts = append(parts, text(uint64(i), (1-lacking>>i%2)*(i+1)))
			}
			for ended := range count + 3 {
				for bits := range 1 << ended {
					ends := make([]bool, ended)
					for i := range ends {
						ends[i] = bits>>i%2 == 1
					}
					all(t, parts, ends)
				}
			}
		}
	}
}

func TestAllStopsAtAPartWithoutBytes(t *testing.T) {
	for at := range 6 {
		for _, nothing := range empty() {
			for _, end := range []bool{false, true} {
				parts := split("ab c d ef g h")
				parts[at] = nothing
				ends := []bool{false, true, true, false, true, true}
				ends[at] = end
				l, n, e := all(t, parts, ends)
				want := split("abc d efg h")[:[]int{0, 0, 1, 2, 2, 3}[at]]
				if !equal(l, want) || n != at || e != api.ErrJoin {
					t.Errorf("nothing at %d: %q, %d, %d", at, l, n, e)
				}
			}
		}
	}
}

func TestAllStopsAtWhatIsTooLong(t *testing.T) {
	a, b := text(1, 65536), text(2, 30000)
	for i, c := range []struct {
		parts [][]byte
		ends  []bool
		want  [][]byte
		n     int
		e     api.Errno
	}{
		{[][]byte{a, a, a}, []bool{true, true, true}, [][]byte{a, a, a}, 3, api.OK},
		{[][]byte{a, a}, []bool{false, true}, nil, 1, api.ErrLong},
		{[][]byte{a, {7}}, []bool{false, true}, nil, 1, api.ErrLong},
		{[][]byte{a, {7}}, nil, nil, 1, api.ErrLong},
		{[][]byte{a, nil}, nil, nil, 1, api.ErrJoin},
		{[][]byte{{7}, a}, []bool{true, true}, [][]byte{{7}, a}, 2, api.OK},
		{[][]byte{{7}, a}, []bool{false, true}, nil, 1, api.ErrLong},
		{[][]byte{make([]byte, 65537)}, []bool{true}, nil, 0, api.ErrLong},
		{[][]byte{b, b, b}, []bool{false, false, true}, nil, 2, api.ErrLong},
		{[][]byte{b, b, b, nil}, []bool{true, false}, [][]byte{b}, 3, api.ErrJoin},
		{[][]byte{b, b, b, b}, []bool{true, false}, [][]byte{b}, 3, api.ErrLong},
	} {
		if l, n, e := all(t, c.parts, c.ends); !equal(l, c.want) || n != c.n || e != c.e {
			t.Errorf("case %d: %d messages, %d, %d", i, len(l), n, e)
		}
	}
}

func TestAllBeginsAnew(t *testing.T) {
	j, m := made(t)
	add(t, j, m, []byte("open"), false)
	for range 3 { // what one call leaves open is nothing to the next, nor to j
		l, n, e := join.All(split("ab c d"), []bool{false, true})
		if !equal(l, split("abc")) || n != 3 || e != api.OK {
			t.Errorf("%q, %d, %d", l, n, e)
		}
	}
	agree(t, "All elsewhere", j, m)
}

func TestAllSharesNothing(t *testing.T) {
	room := text(1, 60)
	before := bytes.Clone(room)
	parts := [][]byte{room[:20], room[5:30], room[30:60], room[:1]}
	ends := []bool{true, false, true, true}
	want, _, _ := models(parts, ends)
	for i := range want {
		l, _, _ := join.All(parts, ends)
		_ = append(l[i], 9, 9, 9)
		clear(l[i][:cap(l[i])])
		if !equal(l[:i], want[:i]) || !equal(l[i+1:], want[i+1:]) {
			t.Errorf("message %d shares memory with another", i)
		}
	}
	if !bytes.Equal(room, before) || !slices.Equal(ends, []bool{true, false, true, true}) || len(parts) != 4 || len(parts[1]) != 25 {
		t.Error("an argument changed:", room, ends)
	}
	l, _, _ := join.All(parts, ends)
	clear(room)
	clear(parts)
	if !equal(l, want) {
		t.Error("messages changed with the argument:", l)
	}
}

// P12.4: round trip.

// divided is a message's parts, and which of them is the last; bit i of where tells whether a part begins at byte i+1.
func divided(m []byte, where uint64) (parts [][]byte, ends []bool) {
	from := 0
	for to := 1; to <= len(m); to++ {
		if to == len(m) || where>>(to-1)%2 == 1 {
			parts, ends = append(parts, m[from:to]), append(ends, to == len(m))
			from = to
		}
	}
	return parts, ends
}

func TestHoweverAShortMessageIsDivided(t *testing.T) {
	for n := 1; n <= 11; n++ {
		m := text(uint64(n), n)
		for where := range uint64(1) << (n - 1) {
			parts, ends := divided(m, where)
			l, added, e := all(t, parts, ends)
			if !equal(l, [][]byte{m}) || added != len(parts) || e != api.OK {
				t.Errorf("%d bytes, divided %b: %v, %d, %d", n, where, l, added, e)
			}
		}
	}
}

func TestHoweverALongMessageIsDivided(t *testing.T) {
	for _, n := range []int{1000, 1024, 65535, 65536} {
		m := text(uint64(n), n)
		for _, size := range []int{1, 2, 7, 1000, 1023, 1024, 32768, 65535, 65536} {
			j := join.New()
			for from := 0; from < n; from += size {
				to := min(from+size, n)
				got, ok, e := j.Add(m[from:to], to == n)
				if ok != (to == n) || e != api.OK || ok && !bytes.Equal(got, m) || !ok && len(got) > 0 {
					t.Fatalf("%d bytes in parts of %d, at %d: %d bytes, %v, %d", n, size, from, len(got), ok, e)
				}
				if want := from/size + 1; !ok && j.Parts() != want {
					t.Fatalf("%d parts, not %d", j.Parts(), want)
				}
			}
			if j.Open() != 0 || j.Parts() != 0 || j.Messages() != 1 || j.Bytes() != n {
				t.Errorf("%d bytes in parts of %d: %d, %d, %d, %d", n, size, j.Open(), j.Parts(), j.Messages(), j.Bytes())
			}
		}
	}
}

func TestMessagesAreReturnedAsTheyWere(t *testing.T) {
	for seed := range uint64(200) {
		s := draws.New(seed)
		var messages, parts [][]byte
		var ends []bool
		for i := range 1 + s.Below(6) {
			m := text(seed*10+uint64(i), 1+s.Below([]int{5, 60, 3000, 65536}[s.Below(4)]))
			messages = append(messages, m)
			for len(m) > 0 {
				n := 1 + s.Below(min(len(m), 5000))
				parts, ends = append(parts, m[:n]), append(ends, n == len(m))
				m = m[n:]
			}
		}
		if l, n, e := join.All(parts, ends); !equal(l, messages) || n != len(parts) || e != api.OK {
			t.Errorf("seed %d: %d messages, not %d, of %d parts, not %d, %d", seed, len(l), len(messages), n, len(parts), e)
		}
	}
}

// P12.5: completeness.

// TestWhatWasAddedIsReturnedOrOpen adds any parts, such as are refused among them.
func TestWhatWasAddedIsReturnedOrOpen(t *testing.T) {
	for seed := range uint64(100) {
		s := draws.New(seed)
		j, m := made(t)
		var added, returned []byte
		for i := range 60 {
			part := text(seed*100+uint64(i), s.Below([]int{3, 40, 20000, 66000}[s.Below(4)]))
			got, ok, e := j.Add(part, s.Below(5) == 0)
			if e == api.OK {
				added = append(added, part...)
			}
			if ok {
				returned = append(returned, got...)
				m.messages = append(m.messages, got)
				m.open, m.parts = nil, 0
			} else if e == api.OK {
				m.open, m.parts = append(m.open, part...), m.parts+1
			}
			if !bytes.Equal(append(bytes.Clone(returned), m.open...), added) || j.Bytes()+j.Open() != len(added) {
				t.Fatalf("seed %d, part %d: %d bytes returned, %d open, %d added", seed, i, j.Bytes(), j.Open(), len(added))
			}
		}
		agree(t, "any parts", j, m)
	}
}

func FuzzJoinAgrees(f *testing.F) {
	f.Add([]byte{1, 2, 131, 1, 129})
	f.Add([]byte{0, 128, 5, 126, 254, 127, 255, 3})
	f.Add([]byte{125, 125, 125, 2, 130, 253, 125, 253})
	f.Add([]byte{4, 126, 133, 127, 1, 129})
	f.Fuzz(func(t *testing.T, ops []byte) {
		j, m := made(t)
		for i, op := range ops {
			n, end := int(op%128), op >= 128
			switch n {
			case 127:
				if got, want := j.Reset(), m.reset(); got != want {
					t.Errorf("Reset: %d, not %d", got, want)
				}
			case 126:
				j.Fork().Add([]byte("elsewhere"), end) // what becomes of a fork is nothing to j
				j = j.Fork()
			case 125:
				add(t, j, m, text(uint64(i), 65536-len(m.open)), end)
			case 124:
				add(t, j, m, text(uint64(i), 65536-len(m.open)+1), end)
			default:
				add(t, j, m, text(uint64(i), n), end)
			}
		}
		agree(t, "any calls", j, m)
	})
}
