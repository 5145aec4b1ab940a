package host

import (
	"cmp"
	"slices"

	"nozzle/api"
)

// end is what a connection is to a host: the one that sends, or the one that receives.
type end[T any] interface {
	Done() bool
	Line() api.Line
	Fork() T
}

// key names a connection in one direction: the host at its other end, and its number.
type key struct{ peer, conn int }

// row is a connection with its number.
type row[T any] struct {
	conn int
	end  T
}

// table is connections by peers and numbers.
type table[T end[T]] struct {
	rows [api.MaxHosts][]row[T] // in increasing order of the numbers
}

// place is where a number is among the rows of its peer, or would be, and whether it is there.
func (t *table[T]) place(k key) (int, bool) {
	return slices.BinarySearchFunc(t.rows[k.peer], k.conn, func(r row[T], conn int) int { return cmp.Compare(r.conn, conn) })
}

// find is a connection, if there is one: also for a peer that there cannot be.
func (t *table[T]) find(k key) (T, bool) {
	var none T
	if !isFrom(k.peer, 0, len(t.rows)-1) {
		return none, false
	}
	i, ok := t.place(k)
	if !ok {
		return none, false
	}
	return t.rows[k.peer][i].end, true
}

// put adds a connection that is not in the table.
func (t *table[T]) put(k key, c T) {
	i, _ := t.place(k)
	t.rows[k.peer] = slices.Insert(t.rows[k.peer], i, row[T]{k.conn, c})
}

// drop takes a connection out that is in the table.
func (t *table[T]) drop(k key) {
	i, _ := t.place(k)
	t.rows[k.peer] = slices.Delete(t.rows[k.peer], i, i+1)
}

// all yields the connections, in increasing order of peer, then number.
func (t *table[T]) all(yield func(key, T) bool) {
	for peer, rows := range t.rows {
		for _, r := range rows {
			if !yield(key{peer, r.conn}, r.end) {
				return
			}
		}
	}
}
