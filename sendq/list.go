package sendq

import "slices"

// list is elements in the order in which they were put, none of them twice.
type list[T comparable] struct{ elements []T }

// put puts an element behind all others, and tells whether it was not there.
func (l *list[T]) put(x T) bool {
	if slices.Contains(l.elements, x) {
		return false
	}
	l.elements = append(l.elements, x)
	return true
}

// take takes the first element off.
func (l *list[T]) take() (T, bool) {
	if len(l.elements) == 0 {
		var none T
		return none, false
	}
	first := l.elements[0]
	l.elements = l.elements[1:]
	return first, true
}

// drop removes an element, if it is there.
func (l *list[T]) drop(x T) {
	if i := slices.Index(l.elements, x); i >= 0 {
		l.elements = slices.Delete(l.elements, i, i+1)
	}
}

// copied is another list with the same elements.
func (l *list[T]) copied() list[T] { return list[T]{slices.Clone(l.elements)} }
