package count_test

import (
	"math"
	"slices"
	"strconv"
	"strings"
	"testing"

	"nozzle/api"
	"nozzle/count"
	"nozzle/draws"
)

// notMade are counters that the package did not make.
func notMade() map[string]*count.Counts {
	other, _ := count.New("a") // counters elsewhere make nothing of these
	other.Add("a", 1)
	var zero count.Counts
	var none *count.Counts
	refused, _ := count.New("A")
	return map[string]*count.Counts{"nil": nil, "zero": {}, "new": new(count.Counts), "refused": refused, "its fork": zero.Fork(), "fork of nil": none.Fork(),
		"since of nil": none.Since(other), "since nil": other.Since(nil), "since zero": other.Since(&zero), "since of zero": zero.Since(other)}
}

// many are so many names, from the from-th on.
func many(from, n int) []string {
	var out []string
	for i := range n {
		out = append(out, "n."+strconv.Itoa(from+i))
	}
	return out
}

// full is as many counters as there may be.
func full(t *testing.T) *pair {
	t.Helper()
	p := made(t, many(0, 256)...)
	for i, name := range p.m.sorted() {
		p.add(name, i)
	}
	return p
}

// unchanged tells that a call that was refused left all as it was.
func (p *pair) unchanged(what string) {
	p.t.Helper()
	p.agree(what + " was refused")
}

// P22.1: New, Add, Get.

func TestNewAllZero(t *testing.T) {
	made(t).agree("no names")
	made(t, "a").agree("one")
	made(t, "tx", "rx.data", "a", "0", ".", "..", "9z.", strings.Repeat("z", 31), strings.Repeat("z", 32)).agree("some")
	made(t, many(0, 255)...).agree("255")
	p := made(t, many(0, 256)...)
	p.agree("256")
	if len(p.x.Names()) != 256 || p.x.Total("") != 0 || p.x.Text() != "" {
		t.Errorf("%d names, %d, %q", len(p.x.Names()), p.x.Total(""), p.x.Text())
	}
}

func TestNewOfNoNames(t *testing.T) {
	var none []string
	for _, names := range [][]string{none, {}} {
		x, e := count.New(names...)
		if x == nil || e != api.OK {
			t.Fatalf("New of none: %v, %d", x, e)
		}
		if e := x.Add("a", 1); e != api.OK || x.Text() != "a 1\n" {
			t.Errorf("Add: %d, %q", e, x.Text())
		}
	}
}

func TestNewEveryByte(t *testing.T) {
	for b := range 256 {
		for _, name := range []string{string([]byte{byte(b)}), string([]byte{'a', byte(b)}), string([]byte{byte(b), 'a'})} {
			x, e := count.New("first", name)
			if isName(name) != (e == api.OK) || (e == api.OK) != (x != nil) || e != api.OK && e != api.ErrArg {
				t.Errorf("New(%q): %v, %d", name, x, e)
			}
		}
	}
}

func TestNewEveryLength(t *testing.T) {
	for n := range 70 {
		x, e := count.New(strings.Repeat("q", n))
		if n >= 1 && n <= 32 {
			if x == nil || e != api.OK {
				t.Errorf("%d bytes: %v, %d", n, x, e)
			}
		} else if x != nil || e != api.ErrArg {
			t.Errorf("%d bytes: %v, %d", n, x, e)
		}
	}
}

func TestNewRefused(t *testing.T) {
	for _, names := range [][]string{{"a", "a"}, {"a", "b", "a"}, {"a", "b", "c", "c"}, {".", "."}, {"", ""}} {
		if x, e := count.New(names...); x != nil || e != api.ErrArg {
			t.Errorf("New(%q): %v, %d", names, x, e)
		}
	}
	for _, bad := range notNames() {
		for _, names := range [][]string{{bad}, {"a", bad}, {bad, "a"}} {
			if x, e := count.New(names...); x != nil || e != api.ErrArg {
				t.Errorf("New(%q): %v, %d", names, x, e)
			}
		}
	}
	for _, n := range []int{257, 258, 300, 512, 5000} {
		if x, e := count.New(many(0, n)...); x != nil || e != api.ErrMany {
			t.Errorf("New of %d: %v, %d", n, x, e)
		}
	}
}

// TestNewOrderOfErrors: what may not be a name, or is one twice, comes ahead of too many, wherever it stands.
func TestNewOrderOfErrors(t *testing.T) {
	for _, bad := range []string{"", "A", "n.0", "n.255", "n.256", "n.257", strings.Repeat("a", 33)} {
		names := append(many(0, 258), bad)
		if x, e := count.New(names...); x != nil || e != api.ErrArg {
			t.Errorf("%q last: %v, %d", bad, x, e)
		}
		names = append([]string{bad}, many(0, 258)...)
		if x, e := count.New(names...); x != nil || e != api.ErrArg {
			t.Errorf("%q first: %v, %d", bad, x, e)
		}
	}
	if x, e := count.New(append(many(0, 256), "n.7")...); x != nil || e != api.ErrArg {
		t.Errorf("257 with one twice: %v, %d", x, e)
	}
}

func TestNewKeepsNoList(t *testing.T) {
	names := []string{"b", "a"}
	x, _ := count.New(names...)
	if !slices.Equal(names, []string{"b", "a"}) {
		t.Errorf("New left %q", names)
	}
	names[0], names[1] = "c", "d"
	if !slices.Equal(x.Names(), []string{"a", "b"}) {
		t.Errorf("Names %q", x.Names())
	}
}

func TestAddGet(t *testing.T) {
	p := made(t, "tx")
	for _, n := range []int{0, 1, 0, 5, 1 << 40} {
		p.add("tx", n)
		p.add("rx", n)
		p.agree("added")
	}
	if p.x.Get("tx") != 1<<40+6 || p.x.Get("rx") != 1<<40+6 {
		t.Errorf("Get %d, %d", p.x.Get("tx"), p.x.Get("rx"))
	}
}

// TestAddNothingCreates: a counter that does not exist is created, also by 0.
func TestAddNothingCreates(t *testing.T) {
	p := made(t)
	if e := p.add("new", 0); e != api.OK || !slices.Equal(p.x.Names(), []string{"new"}) || p.x.Text() != "" {
		t.Errorf("%d, %q, %q", e, p.x.Names(), p.x.Text())
	}
}

func TestAddToMost(t *testing.T) {
	for _, first := range []int{0, 1, 5, most - 2, most - 1, most, most + 1, math.MaxInt} {
		for _, then := range []int{0, 1, 2, 3, most - 6, most - 5, most - 4, most - 1, most, most + 1, 1 << 62, math.MaxInt - most, math.MaxInt - 1, math.MaxInt} {
			p := made(t, "a")
			p.add("a", first)
			p.add("a", then)
			p.add("b", then)
			p.agree("added")
			if p.x.Get("a") > most || p.x.Get("a") < min(first, most) {
				t.Errorf("%d and %d: %d", first, then, p.x.Get("a"))
			}
		}
	}
}

func TestAddRefused(t *testing.T) {
	for _, p := range []*pair{made(t), made(t, "a"), full(t)} {
		for _, name := range notNames() {
			for _, n := range []int{0, 1, -1, most} {
				if e := p.add(name, n); e != api.ErrArg {
					t.Errorf("Add(%q, %d): %d", name, n, e)
				}
			}
		}
		for _, n := range []int{math.MinInt, math.MinInt + 1, -most, -1 << 32, -2, -1} {
			for _, name := range []string{"a", "new", "n.0", ""} {
				if e := p.add(name, n); e != api.ErrArg {
					t.Errorf("Add(%q, %d): %d", name, n, e)
				}
			}
		}
		p.unchanged("Add")
	}
}

func TestAddToFull(t *testing.T) {
	p := made(t, many(0, 255)...)
	if e := p.add("last", 3); e != api.OK {
		t.Errorf("the last name: %d", e)
	}
	for _, name := range []string{"a", "zz", "n.255", "."} {
		for _, n := range []int{0, 1, most} {
			if e := p.add(name, n); e != api.ErrMany {
				t.Errorf("Add(%q, %d) with 256: %d", name, n, e)
			}
		}
	}
	p.unchanged("Add")
	if e := p.add("n.254", 1); e != api.OK {
		t.Errorf("Add of one that exists: %d", e)
	}
	p.agree("full")
}

func TestGetOfNone(t *testing.T) {
	p := made(t, "a", "b")
	p.add("a", 3)
	for _, name := range append(notNames(), "c", "aa", "a.") {
		if n := p.x.Get(name); n != 0 {
			t.Errorf("Get(%q): %d", name, n)
		}
	}
	p.unchanged("Get")
}

// P22.2: Names, All, Total, Text.

func TestExampleOfTotal(t *testing.T) {
	p := made(t)
	p.add("a.x", 2)
	p.add("a.y", 3)
	if p.x.Total("a.") != 5 || p.x.Text() != "a.x 2\na.y 3\n" {
		t.Errorf("%d, %q", p.x.Total("a."), p.x.Text())
	}
}

func TestIncreasingOrder(t *testing.T) {
	names := []string{".", "..", ".a", "0", "00", "1", "10", "2", "9", "a", "a.", "a.b", "a0", "aa", "ab", "b", "b.", "z", "z.", "zz"}
	for seed := range uint64(50) {
		p := made(t, draws.Shuffle(draws.New(seed), names)...)
		if !slices.Equal(p.x.Names(), names) {
			t.Fatalf("Names %q", p.x.Names())
		}
		text := ""
		for i, name := range names {
			p.add(name, i+1)
			text += name + " " + strconv.Itoa(i+1) + "\n"
		}
		if p.x.Text() != text {
			t.Fatalf("Text %q", p.x.Text())
		}
		p.agree("in order")
	}
}

func TestNamesAreNewMemory(t *testing.T) {
	p := made(t, "a", "b")
	names := p.x.Names()
	names[0] = "changed"
	p.unchanged("Names")
}

func TestAllStops(t *testing.T) {
	p := full(t)
	for stop := range 257 {
		var got []string
		for name := range p.x.All() {
			if len(got) == stop {
				break
			}
			got = append(got, name)
		}
		if !slices.Equal(got, p.m.sorted()[:stop]) {
			t.Fatalf("stopped after %d: %q", stop, got)
		}
	}
}

// TestAllAsItBegan: what changes during an iteration is not seen in it, and what changed before it is.
func TestAllAsItBegan(t *testing.T) {
	p := made(t, "b", "d")
	p.add("b", 1)
	all := p.x.All()
	p.add("c", 2)
	for range 2 {
		before := p.fork()
		var got []string
		for name, n := range all {
			got = append(got, name)
			if n != before.m.get(name) {
				t.Errorf("%q %d, not %d", name, n, before.m.get(name))
			}
			for _, other := range []string{"a", "b", "c", "d", "e", name + name} {
				p.add(other, 10)
			}
			p.merge(p)
		}
		if !slices.Equal(got, before.m.sorted()) {
			t.Errorf("%q, not %q", got, before.m.sorted())
		}
		p.agree("changed meanwhile")
	}
}

// TestAllWithinAll: two iterations at a time do not disturb each other.
func TestAllWithinAll(t *testing.T) {
	p := made(t, "a", "b", "c")
	text := ""
	all := p.x.All()
	for one := range all {
		for two := range all {
			text += one + two + " "
		}
	}
	if text != "aa ab ac ba bb bc ca cb cc " {
		t.Error(text)
	}
}

func TestTotalPrefixes(t *testing.T) {
	p := made(t, "a", "a.", "a.x", "a.x.1", "ab", "b", "rx", strings.Repeat("a", 32))
	for i, name := range p.m.sorted() {
		p.add(name, 1<<i)
	}
	for _, prefix := range append(notNames(), "a", "a.", "a.x", "a.x.", "a.x.1", "a.x.12", "r", "x", strings.Repeat("a", 31), strings.Repeat("a", 32), strings.Repeat("a", 33)) {
		p.agreeOf("prefixes", prefix)
	}
	if p.x.Total("") != 255 {
		t.Errorf("Total of all: %d", p.x.Total(""))
	}
}

func TestTotalAtMost(t *testing.T) {
	p := made(t)
	for i, name := range many(0, 256) {
		p.add(name, most-i)
		p.agreeOf("at most", "n.")
	}
	if p.x.Total("n.") != most {
		t.Errorf("Total %d", p.x.Total("n."))
	}
	p = made(t)
	p.add("a", most-3)
	for i, want := range []int{most - 2, most - 1, most, most} {
		p.add("b", 1)
		if p.x.Total("") != want {
			t.Errorf("%d more: %d", i+1, p.x.Total(""))
		}
	}
}

func TestTextLeavesOutNone(t *testing.T) {
	p := made(t, "zero", "one", "more")
	p.add("one", 1)
	p.add("more", most)
	if p.x.Text() != "more 1152921504606846976\none 1\n" {
		t.Errorf("%q", p.x.Text())
	}
}

// P22.3: Since, Merge, Fork.

func TestSince(t *testing.T) {
	old, now := made(t, "gone", "less", "same"), made(t, "new", "zero")
	for _, name := range []string{"gone", "less", "same", "more"} {
		old.add(name, 7)
	}
	now.add("less", 6)
	now.add("same", 7)
	now.add("more", 17)
	now.add("new", 3)
	d := now.since(old)
	d.agree("since")
	if !slices.Equal(d.x.Names(), []string{"less", "more", "new", "same", "zero"}) || d.x.Text() != "more 10\nnew 3\n" {
		t.Errorf("%q, %q", d.x.Names(), d.x.Text())
	}
	old.unchanged("Since")
	now.unchanged("Since")
}

func TestSinceLimits(t *testing.T) {
	for _, n := range []int{0, 1, most - 1, most} {
		for _, k := range []int{0, 1, most - 1, most} {
			now, old := made(t), made(t)
			now.add("a", n)
			old.add("a", k)
			d := now.since(old)
			d.agree("since")
			if d.x.Get("a") != max(n-k, 0) {
				t.Errorf("%d since %d: %d", n, k, d.x.Get("a"))
			}
		}
	}
	p := full(t)
	p.since(made(t)).agree("all")
	p.since(p).agree("none")
	made(t).since(p).agree("no names")
}

func TestSinceIsIndependent(t *testing.T) {
	old, now := made(t, "a"), made(t, "a", "b")
	now.add("a", 5)
	d := now.since(old)
	now.add("a", 1)
	old.add("a", 1)
	d.agree("the others changed")
	d.add("b", 9)
	d.add("c", 9)
	now.agree("what came since changed")
	old.agree("what came since changed")
}

func TestMerge(t *testing.T) {
	p, other := made(t, "a", "b", "c"), made(t, "c", "d", "zero")
	p.add("b", 5)
	p.add("c", most-4)
	other.add("c", 9)
	other.add("d", 3)
	if e := p.merge(other); e != api.OK || p.x.Text() != "b 5\nc 1152921504606846976\nd 3\n" || p.x.Total("zero") != 0 {
		t.Errorf("%d, %q", e, p.x.Text())
	}
	if !slices.Equal(p.x.Names(), []string{"a", "b", "c", "d", "zero"}) {
		t.Errorf("Names %q", p.x.Names())
	}
	p.agree("merged")
	other.unchanged("Merge")
	p.add("d", 1)
	other.agree("the one that it went into changed")
	other.add("zero", 1)
	p.agree("what was merged changed")
}

func TestMergeWithItself(t *testing.T) {
	p := full(t)
	if e := p.merge(p); e != api.OK {
		t.Error(e)
	}
	p.agree("twice")
	if p.x.Total("") != 2*255*128 {
		t.Errorf("%d", p.x.Total(""))
	}
}

func TestMergeRoom(t *testing.T) {
	for _, n := range []int{0, 1, 100, 255, 256} {
		for _, k := range []int{0, 1, 100, 156, 157, 255, 256} {
			for _, from := range []int{0, 1, n / 2, n, 256 - k, 257 - k, 300} {
				p, other := made(t, many(0, n)...), made(t, many(max(from, 0), k)...)
				for _, name := range other.m.names {
					other.add(name, 3)
				}
				p.merge(other)
				if got, want := p.x.Text(), p.m.text(); got != want {
					t.Fatalf("%d with %d from %d on: %q, not %q", n, k, from, got, want)
				}
				if got, want := p.x.Names(), p.m.sorted(); !slices.Equal(got, want) {
					t.Fatalf("%d with %d from %d on: %q, not %q", n, k, from, got, want)
				}
			}
		}
	}
}

// TestMergeTooMany: nothing is done, also not to the names that both have.
func TestMergeTooMany(t *testing.T) {
	p, other := made(t, many(0, 256)...), made(t, many(0, 200)...)
	for _, name := range other.m.names {
		other.add(name, 2)
	}
	other.add("new", 0)
	if e := p.merge(other); e != api.ErrMany || p.x.Total("") != 0 || p.x.Get("n.0") != 0 {
		t.Errorf("%d, %d", e, p.x.Total(""))
	}
	p.unchanged("Merge")
	other.unchanged("Merge")
}

func TestForksAreIndependent(t *testing.T) {
	p := made(t, "a", "b")
	p.add("a", 5)
	one, two := p.fork(), p.fork()
	one.add("a", 1)
	one.add("c", 2)
	two.add("b", 3)
	two.merge(one)
	p.add("d", 9)
	for what, x := range map[string]*pair{"the first": p, "a fork": one, "another fork": two} {
		x.agree(what)
	}
	made(t).fork().add("a", 1)
	full(t).fork().agree("fork of 256")
}

// Of counters that are nil, or that the package did not make.

func TestNotMadeTellsNothing(t *testing.T) {
	for what, x := range notMade() {
		if x.Get("a") != 0 || len(x.Names()) != 0 || x.Total("") != 0 || x.Total("a") != 0 || x.Text() != "" || x.Fork() != nil {
			t.Errorf("%s: %d, %q, %d, %q, %v", what, x.Get("a"), x.Names(), x.Total(""), x.Text(), x.Fork())
		}
		for name, n := range x.All() {
			t.Errorf("%s: All yields %q, %d", what, name, n)
		}
	}
}

func TestNotMadeRefuses(t *testing.T) {
	p := made(t, "a")
	p.add("a", 5)
	for what, x := range notMade() {
		for _, name := range []string{"a", "", "A"} {
			for _, n := range []int{1, 0, -1} {
				if e := x.Add(name, n); e != api.ErrNil {
					t.Errorf("%s: Add(%q, %d) %d", what, name, n, e)
				}
			}
		}
		if e, back := x.Merge(p.x), p.x.Merge(x); e != api.ErrNil || back != api.ErrNil || x.Merge(x) != api.ErrNil {
			t.Errorf("%s: Merge %d, %d", what, e, back)
		}
		if x.Since(p.x) != nil || p.x.Since(x) != nil || x.Since(x) != nil {
			t.Errorf("%s: Since %v, %v", what, x.Since(p.x), p.x.Since(x))
		}
		if x.Get("a") != 0 || x.Fork() != nil {
			t.Errorf("%s has something now", what)
		}
	}
	p.unchanged("Merge")
}

// TestMergeNilComesFirst: ErrNil comes ahead of ErrMany.
func TestMergeNilComesFirst(t *testing.T) {
	p := full(t)
	if e := p.x.Merge(nil); e != api.ErrNil {
		t.Errorf("Merge of nil: %d", e)
	}
	if e := p.x.Merge(new(count.Counts)); e != api.ErrNil {
		t.Errorf("Merge of zero: %d", e)
	}
	var none *count.Counts
	if e := none.Merge(p.x); e != api.ErrNil {
		t.Errorf("nil's Merge: %d", e)
	}
	p.unchanged("Merge")
}

// TestOneAtATime: counters that New made do not share theirs.
func TestOneAtATime(t *testing.T) {
	one, two := made(t, "a"), made(t, "a")
	one.add("a", 1)
	two.agree("another changed")
}
