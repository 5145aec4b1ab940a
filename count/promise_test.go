package count_test

import (
	"slices"
	"testing"

	"nozzle/api"
	"nozzle/count"
	"nozzle/draws"
)

// addition is one call of Add.
type addition struct {
	name string
	n    int
}

// additions draws some, of few names, some so great that counters reach their end.
func additions(s *draws.Source, n int) []addition {
	var out []addition
	for range n {
		name := many(0, 8)[s.Below(8)]
		switch s.Below(8) {
		case 0:
			out = append(out, addition{name, most - s.Below(5)})
		case 1:
			out = append(out, addition{name, most / 2})
		case 2:
			out = append(out, addition{name, 0})
		case 3:
			out = append(out, addition{name, -1 - s.Below(9)})
		default:
			out = append(out, addition{name, s.Below(50)})
		}
	}
	return out
}

// after is counters that had these.
func after(x *count.Counts, all []addition) *count.Counts {
	out := x.Fork()
	for _, a := range all {
		out.Add(a.name, a.n)
	}
	return out
}

// same tells whether both have the same names and counters.
func same(a, b *count.Counts) bool {
	return slices.Equal(a.Names(), b.Names()) && a.Text() == b.Text()
}

// P22.4: the result of Adds does not depend on their order.

func TestAnyOrder(t *testing.T) {
	for seed := range 60 {
		s := draws.New(draws.Key(224, seed))
		first, _ := count.New("n.0", "x")
		all := additions(s, 1+s.Below(40))
		want := after(first, all)
		for range 10 {
			if got := after(first, draws.Shuffle(s, all)); !same(got, want) {
				t.Fatalf("%q, not %q", got.Text(), want.Text())
			}
		}
		slices.Reverse(all)
		if got := after(first, all); !same(got, want) {
			t.Fatalf("reversed: %q, not %q", got.Text(), want.Text())
		}
	}
}

// TestMergedInAnyOrder: parts that are counted apart come to the same, whichever is merged first.
func TestMergedInAnyOrder(t *testing.T) {
	for seed := range 40 {
		s := draws.New(draws.Key(225, seed))
		none, _ := count.New()
		one, two := additions(s, 20), additions(s, 20)
		want := after(after(none, one), two)
		a, b := after(none, one), after(none, two)
		if e := a.Merge(b); e != api.OK || !same(a, want) {
			t.Fatalf("%d, %q, not %q", e, a.Text(), want.Text())
		}
		if e := b.Merge(after(none, one)); e != api.OK || !same(b, want) {
			t.Fatalf("%d, %q, not %q", e, b.Text(), want.Text())
		}
	}
}

// P22.5: the earlier state merged with Since of it is the current state, if no counter is 2^60.

func TestParts(t *testing.T) {
	for seed := range 200 {
		s := draws.New(draws.Key(226, seed))
		first, _ := count.New(many(s.Below(4), s.Below(9))...)
		var all []addition
		for _, a := range additions(s, s.Below(40)) {
			if a.n < 1000 {
				all = append(all, a)
			}
		}
		cut := s.Below(len(all) + 1)
		earlier := after(first, all[:cut])
		now := after(earlier, all[cut:])
		whole := earlier.Fork()
		if e := whole.Merge(now.Since(earlier)); e != api.OK || !same(whole, now) {
			t.Fatalf("%d, %q, not %q", e, whole.Text(), now.Text())
		}
	}
}

func TestPartsAtTheLimits(t *testing.T) {
	for _, before := range []int{0, 1, most - 2, most - 1} {
		earlier, _ := count.New("zero")
		earlier.Add("a", before)
		now := after(earlier, []addition{{"a", most - 1 - before}, {"b", most - 1}, {"c", 0}})
		for _, name := range many(0, 252) {
			now.Add(name, 1)
		}
		if n := len(now.Names()); n != 256 {
			t.Fatalf("%d names", n)
		}
		if e := earlier.Merge(now.Since(earlier)); e != api.OK || !same(earlier, now) {
			t.Errorf("%d, %q, not %q", e, earlier.Text(), now.Text())
		}
	}
}
