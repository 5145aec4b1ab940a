package host

import (
	"slices"
	"testing"

	"nozzle/api"
)

// mark is a connection that does nothing.
type mark int

func (m mark) Done() bool     { return false }
func (m mark) Line() api.Line { return api.Line{Conn: int(m)} }
func (m mark) Fork() mark     { return m }

// filled is a table whose connections have their peers and numbers as one number.
func filled() *table[mark] {
	t := &table[mark]{}
	for _, k := range []key{{5, 3}, {0, 2}, {7, 1}, {5, 1}, {0, 1 << 30}, {5, 2}, {0, 1}} {
		t.put(k, mark(k.peer*10+k.conn%9))
	}
	return t
}

func TestTableYieldsInOrder(t *testing.T) {
	want := []key{{0, 1}, {0, 2}, {0, 1 << 30}, {5, 1}, {5, 2}, {5, 3}, {7, 1}}
	for most := range len(want) {
		var got []key
		for k, m := range filled().all {
			if int(m) != k.peer*10+k.conn%9 {
				t.Errorf("%v has %d", k, m)
			}
			got = append(got, k)
			if len(got) > most { // nothing is yielded behind a break
				break
			}
		}
		if !slices.Equal(got, want[:most+1]) {
			t.Errorf("%v, not %v", got, want[:most+1])
		}
	}
}

func TestTableFindsAndDrops(t *testing.T) {
	x := filled()
	x.drop(key{5, 2})
	for _, k := range []key{{5, 2}, {1, 1}, {5, 0}, {5, 4}, {7, 0}, {7, 2}, {-1, 1}, {8, 1}, {1 << 32, 1}, {5, -1}} {
		if m, ok := x.find(k); m != 0 || ok {
			t.Errorf("find(%v): %d, %v", k, m, ok)
		}
	}
	for _, k := range []key{{5, 3}, {0, 2}, {7, 1}, {5, 1}, {0, 1 << 30}, {0, 1}} {
		if m, ok := x.find(k); int(m) != k.peer*10+k.conn%9 || !ok {
			t.Errorf("find(%v): %d, %v", k, m, ok)
		}
	}
}
