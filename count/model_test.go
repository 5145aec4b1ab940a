package count_test

import (
	"math"
	"math/big"
	"slices"
	"strconv"
	"strings"
	"testing"

	"nozzle/api"
	"nozzle/count"
	"nozzle/draws"
)

// most is the greatest number that a counter may be.
const most = 1 << 60

// notNames are texts that are no counter's name.
func notNames() []string {
	out := []string{"", " ", "a b", "a ", " a", "A", "aB", "Z", "a\n", "\na", "a_b", "-", "a-b", "/", ":", "`", "{", "@", "[", "a,b", "a/b", "\x00", "a\x00", "é", "aé", "ａ", "٣", "\x80", "a\xff", "\xc3", "\ufffd",
		strings.Repeat("a", 33), strings.Repeat(".", 34), strings.Repeat("x", 1000), strings.Repeat("é", 16)}
	for b := range 256 {
		if strings.IndexByte("abcdefghijklmnopqrstuvwxyz0123456789.", byte(b)) < 0 {
			out = append(out, string([]byte{byte(b)}), string([]byte{'a', byte(b)}), string([]byte{byte(b), 'z'}))
		}
	}
	return out
}

// model does slowly, as the document says it, what counters do: it keeps all that was ever added.
type model struct {
	names []string // as they were created
	added [][]int
}

func isName(name string) bool {
	bytes := 0
	for i := range len(name) {
		bytes++
		switch b := name[i]; {
		case b == '.', '0' <= b && b <= '9', 'a' <= b && b <= 'z':
		default:
			return false
		}
	}
	return 1 <= bytes && bytes <= 32
}

func newModel(names ...string) (*model, api.Errno) {
	m := &model{}
	for _, name := range names {
		if !isName(name) || slices.Contains(m.names, name) {
			return nil, api.ErrArg
		}
		m.create(name)
	}
	if len(m.names) > 256 {
		return nil, api.ErrMany
	}
	return m, api.OK
}

func (m *model) create(name string) int {
	m.names = append(m.names, name)
	m.added = append(m.added, nil)
	return len(m.names) - 1
}

func (m *model) add(name string, n int) api.Errno {
	i := slices.Index(m.names, name)
	switch {
	case !isName(name) || n < 0:
		return api.ErrArg
	case i < 0 && len(m.names) == 256:
		return api.ErrMany
	case i < 0:
		i = m.create(name)
	}
	m.added[i] = append(m.added[i], n)
	return api.OK
}

// atMost is the sum of numbers, or 2^60 if it is greater.
func atMost(numbers []int) int {
	sum := new(big.Int)
	for _, n := range numbers {
		sum.Add(sum, big.NewInt(int64(n)))
	}
	if sum.Cmp(big.NewInt(most)) > 0 {
		return most
	}
	return int(sum.Int64())
}

func (m *model) get(name string) int {
	if i := slices.Index(m.names, name); i >= 0 {
		return atMost(m.added[i])
	}
	return 0
}

func (m *model) sorted() []string {
	out := slices.Clone(m.names)
	slices.Sort(out)
	return out
}

func (m *model) total(prefix string) int {
	var all []int
	for _, name := range m.names {
		if len(name) >= len(prefix) && name[:len(prefix)] == prefix {
			all = append(all, m.get(name))
		}
	}
	return atMost(all)
}

func (m *model) text() string {
	out := ""
	for _, name := range m.sorted() {
		if n := m.get(name); n != 0 {
			out += name + " " + strconv.FormatInt(int64(n), 10) + "\n"
		}
	}
	return out
}

func (m *model) since(old *model) *model {
	out, _ := newModel(m.names...)
	for _, name := range m.names {
		if n := m.get(name) - old.get(name); n > 0 {
			out.add(name, n)
		}
	}
	return out
}

func (m *model) merge(other *model) api.Errno {
	all := m.fork()
	for _, name := range other.names {
		if !slices.Contains(all.names, name) {
			all.create(name)
		}
	}
	if len(all.names) > 256 {
		return api.ErrMany
	}
	for _, name := range slices.Clone(other.names) {
		m.add(name, other.get(name))
	}
	return api.OK
}

func (m *model) fork() *model {
	out, _ := newModel(m.names...)
	for _, name := range m.names {
		out.add(name, m.get(name))
	}
	return out
}

// pair is counters, and the model of them: each call goes to both.
type pair struct {
	t *testing.T
	x *count.Counts
	m *model
}

func made(t *testing.T, names ...string) *pair {
	t.Helper()
	m, want := newModel(names...)
	x, e := count.New(names...)
	if x == nil || e != api.OK || want != api.OK {
		t.Fatalf("New(%q): %v, %d, not %d", names, x, e, want)
	}
	return &pair{t, x, m}
}

func (p *pair) add(name string, n int) api.Errno {
	p.t.Helper()
	got, want := p.x.Add(name, n), p.m.add(name, n)
	if got != want {
		p.t.Errorf("Add(%q, %d): %d, not %d", name, n, got, want)
	}
	return got
}

func (p *pair) merge(other *pair) api.Errno {
	p.t.Helper()
	got, want := p.x.Merge(other.x), p.m.merge(other.m)
	if got != want {
		p.t.Errorf("Merge: %d, not %d", got, want)
	}
	return got
}

func (p *pair) fork() *pair { return &pair{p.t, p.x.Fork(), p.m.fork()} }

func (p *pair) since(old *pair) *pair {
	return &pair{p.t, p.x.Since(old.x), p.m.since(old.m)}
}

// agree asks both everything that counters tell.
func (p *pair) agree(what string) {
	p.t.Helper()
	names := p.m.sorted()
	if got := p.x.Names(); !slices.Equal(got, names) {
		p.t.Errorf("%s: Names %q, not %q", what, got, names)
	}
	if got, want := p.x.Text(), p.m.text(); got != want {
		p.t.Errorf("%s: Text %q, not %q", what, got, want)
	}
	i := 0
	for name, n := range p.x.All() {
		if i >= len(names) || name != names[i] || n != p.m.get(name) || n != p.x.Get(name) {
			p.t.Fatalf("%s: All yields %q, %d at place %d; Get %d", what, name, n, i, p.x.Get(name))
		}
		i++
	}
	if i != len(names) {
		p.t.Errorf("%s: All yields %d, not %d", what, i, len(names))
	}
	p.agreeOf(what, "none")
	p.agreeOf(what, "")
	for _, name := range names {
		p.agreeOf(what, name)
		p.agreeOf(what, name[:1])
		p.agreeOf(what, name[:len(name)-1])
		p.agreeOf(what, name+".")
	}
}

// agreeOf asks both of one name, or one prefix.
func (p *pair) agreeOf(what, name string) {
	p.t.Helper()
	if got, want := p.x.Get(name), p.m.get(name); got != want {
		p.t.Errorf("%s: Get(%q) %d, not %d", what, name, got, want)
	}
	if got, want := p.x.Total(name), p.m.total(name); got != want {
		p.t.Errorf("%s: Total(%q) %d, not %d", what, name, got, want)
	}
}

// numbers are some that may be added, and some that may not.
var numbers = []int{math.MinInt, math.MinInt + 1, -most, -1 << 32, -1, 0, 0, 1, 2, 9, 10, 255, 256, 1 << 31, 1 << 32, 1<<32 + 1, most - 10, most - 1, most, most + 1, 1 << 61, 1 << 62, math.MaxInt - 1, math.MaxInt}

// anyName draws one: few, so that they meet again, of which many begin alike.
func anyName(s *draws.Source) string {
	if s.Below(12) == 0 {
		bad := notNames()
		return bad[s.Below(len(bad))]
	}
	name := []string{"a", "a.", "b.", "rx.", "tx", "0", ".", strings.Repeat("z", 31)}[s.Below(8)]
	return name + []string{"", "", "x", "y", ".", "7", "a"}[s.Below(7)]
}

// anyCall makes one that is drawn, and returns what to go on with.
func (p *pair) anyCall(s *draws.Source, others []*pair) *pair {
	p.t.Helper()
	other := others[s.Below(len(others))]
	switch s.Below(12) {
	case 0:
		return p.fork()
	case 1:
		return p.since(other)
	case 2:
		p.merge(other)
	case 3:
		p.add(anyName(s), numbers[s.Below(len(numbers))])
	default:
		p.add(anyName(s), s.Below(1000))
	}
	return p
}

// TestAnyCalls holds any calls against the model.
func TestAnyCalls(t *testing.T) {
	for seed := range 40 {
		s := draws.New(draws.Key(22, seed))
		all := []*pair{made(t), made(t, "a", "b.x"), made(t, "tx")}
		for range 150 {
			i := s.Below(len(all))
			all[i] = all[i].anyCall(s, all)
			if s.Below(10) == 0 {
				all[i].agree("any calls")
			}
		}
		for _, p := range all {
			p.agree("at last")
		}
	}
}

// FuzzCountAgrees holds calls that the fuzzer makes up against the model.
func FuzzCountAgrees(f *testing.F) {
	f.Add("a.x", "a.y", 2, 3, "a.")
	f.Add("tx", "rx.data", most, 5, "")
	f.Add("", strings.Repeat("z", 32), -1, math.MaxInt, "z")
	f.Add("a\xff", "A", 0, 0, "\xff")
	f.Fuzz(func(t *testing.T, one, two string, n, k int, prefix string) {
		p := made(t)
		p.add(one, n)
		old := p.fork()
		p.add(two, k)
		p.add(one, k)
		p.agreeOf("added", prefix)
		p.agree("added")
		p.since(old).agree("since")
		old.since(p).agree("before")
		old.merge(p)
		old.agree("merged")
		if _, want := newModel(one, two); want != api.OK {
			if x, e := count.New(one, two); x != nil || e != want {
				t.Errorf("New(%q, %q): %v, %d, not %d", one, two, x, e, want)
			}
			return
		}
		made(t, one, two).agree("made")
	})
}
