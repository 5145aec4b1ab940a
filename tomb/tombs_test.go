package tomb_test

import (
	"math"
	"testing"

	"nozzle/api"
	"nozzle/draws"
	"nozzle/tomb"
)

// notHosts are how many hosts there may not be.
var notHosts = []int{math.MinInt, -1 << 32, -8, -1, 0, 9, 10, 16, 64, 1 << 32, 1<<32 + 1, math.MaxInt}

// notMadeTombs are Tombs that NewAll did not make.
func notMadeTombs() map[string]*tomb.Tombs {
	other, _ := tomb.NewAll(8, 64) // Tombs elsewhere make nothing of these
	other.Of(0).Close(2)
	refused, _ := tomb.NewAll(9, 64)
	without, _ := tomb.NewAll(8, 0)
	return map[string]*tomb.Tombs{"nil": nil, "zero": {}, "new": new(tomb.Tombs), "refused": refused, "without a span": without}
}

// P20.3: Tombs.

func TestNewAllEveryNumberOfHosts(t *testing.T) {
	for hosts := 1; hosts <= 8; hosts++ {
		for span := 1; span <= 64; span++ {
			all, e := tomb.NewAll(hosts, span)
			if all == nil || e != api.OK {
				t.Fatalf("NewAll(%d, %d): %v, %d", hosts, span, all, e)
			}
			for host := range hosts {
				pair{t, all.Of(host), newModel(span, 1)}.agree("new")
			}
			if all.Count() != 0 {
				t.Error(all.Count())
			}
		}
	}
}

func TestNewAllRefuses(t *testing.T) {
	for _, hosts := range notHosts {
		for _, span := range append([]int{1, 5, 64}, notSpans...) {
			if all, e := tomb.NewAll(hosts, span); all != nil || e != api.ErrTomb {
				t.Errorf("NewAll(%d, %d): %v, %d", hosts, span, all, e)
			}
		}
	}
	for hosts := 1; hosts <= 8; hosts++ {
		for _, span := range notSpans {
			if all, e := tomb.NewAll(hosts, span); all != nil || e != api.ErrTomb {
				t.Errorf("NewAll(%d, %d): %v, %d", hosts, span, all, e)
			}
		}
	}
}

func TestOfWhereThereIsNone(t *testing.T) {
	for hosts := 1; hosts <= 8; hosts++ {
		all, _ := tomb.NewAll(hosts, 4)
		for _, host := range []int{math.MinInt, -1 << 32, -2, -1, hosts, hosts + 1, 8, 9, 1 << 32, math.MaxInt} {
			if all.Of(host) != nil {
				t.Errorf("Of(%d) of %d", host, hosts)
			}
		}
	}
}

func TestOfIsAlwaysTheSame(t *testing.T) {
	all, _ := tomb.NewAll(8, 4)
	of := map[*tomb.Tomb]int{}
	for host := range 8 {
		of[all.Of(host)] = host
	}
	if len(of) != 8 {
		t.Errorf("%d tombs of 8 hosts", len(of))
	}
	for host := range 8 {
		all.Of(host).Close(2)
		all.Of(host).Close(host % 4)
		if of[all.Of(host)] != host || all.Of(host) == nil {
			t.Errorf("Of(%d) is another one", host)
		}
	}
}

// TestTombsAgree holds closed numbers of all hosts against a model of each.
func TestTombsAgree(t *testing.T) {
	for hosts := 1; hosts <= 8; hosts++ {
		s := draws.New(draws.Key(203, hosts))
		all, _ := tomb.NewAll(hosts, 9)
		other, _ := tomb.NewAll(hosts, 9)
		pairs := make([]pair, hosts)
		for host := range pairs {
			pairs[host] = pair{t, all.Of(host), newModel(9, 1)}
		}
		for range 200 {
			p := pairs[s.Below(hosts)]
			p.close(p.m.floor() - 1 + s.Below(12))
			sum := 0
			for host, p := range pairs {
				sum += p.m.count()
				if all.Of(host) != p.x {
					t.Fatalf("Of(%d) is another one", host)
				}
			}
			if all.Count() != sum {
				t.Errorf("Count %d, not %d", all.Count(), sum)
			}
		}
		for host, p := range pairs {
			p.agree("in the end")
			if other.Of(host).Floor() != 1 {
				t.Errorf("other Tombs: Floor %d", other.Of(host).Floor())
			}
		}
		if other.Count() != 0 {
			t.Errorf("other Tombs: Count %d", other.Count())
		}
	}
}

func TestCountWithoutWhatIsBelowTheFloors(t *testing.T) {
	all, _ := tomb.NewAll(3, 5)
	for i, c := range []struct{ host, n, count int }{{0, 3, 1}, {2, 3, 2}, {2, 5, 3}, {1, 1, 3}, {0, 1, 3}, {0, 2, 2}, {2, 1, 2}, {2, 9, 2}, {2, 2, 1}, {2, 4, 0}} {
		all.Of(c.host).Close(c.n)
		if all.Count() != c.count {
			t.Errorf("%d: Count %d, not %d", i, all.Count(), c.count)
		}
	}
}

func TestAForkOfAHostsTomb(t *testing.T) {
	all, _ := tomb.NewAll(2, 5)
	fork := all.Of(1).Fork()
	fork.Close(3)
	if all.Count() != 0 || all.Of(1).Closed(3) || fork.Count() != 1 {
		t.Errorf("Count %d, of the fork %d", all.Count(), fork.Count())
	}
}

func TestTombsThatNobodyMadeAll(t *testing.T) {
	for what, all := range notMadeTombs() {
		for _, host := range []int{math.MinInt, -1, 0, 1, 7, 8, math.MaxInt} {
			if all.Of(host) != nil {
				t.Errorf("%s: Of(%d)", what, host)
			}
		}
		if all.Count() != 0 {
			t.Errorf("%s: Count %d", what, all.Count())
		}
	}
}
