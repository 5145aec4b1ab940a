package host

import (
	"slices"

	"nozzle/api"
	"nozzle/tomb"
)

// side is all that a host has of its connections in one direction.
type side[T end[T]] struct {
	table[T]
	tombs    [api.MaxHosts]*tomb.Tomb
	messages map[key][]string // of every connection that ever existed; strings, as forks share them
}

// newSide is one without connections, with room for so many of each peer.
func newSide[T end[T]](most int) side[T] {
	s := side[T]{messages: map[key][]string{}}
	for peer := range s.tombs {
		s.tombs[peer], _ = tomb.New(most)
	}
	return s
}

// may tells whether a number may be a new connection's.
func (s *side[T]) may(k key) bool { return s.tombs[k.peer].May(k.conn) }

func (s *side[T]) isClosed(k key) bool { return s.tombs[k.peer].Closed(k.conn) }

// settle lets go of a connection if it is done, and tells whether it is: its number is closed then.
func (s *side[T]) settle(k key, c T) bool {
	if !c.Done() {
		return false
	}
	s.drop(k)
	s.tombs[k.peer].Close(k.conn)
	return true
}

// keep adds messages to those of a connection.
func (s *side[T]) keep(k key, messages ...[]byte) {
	for _, m := range messages {
		s.messages[k] = append(s.messages[k], string(m))
	}
}

// kept are all messages of a connection.
func (s *side[T]) kept(k key) [][]byte {
	var out [][]byte
	for _, m := range s.messages[k] {
		out = append(out, []byte(m))
	}
	return out
}

// lines are how the connections stand.
func (s *side[T]) lines() []api.Line {
	var out []api.Line
	for _, c := range s.all {
		out = append(out, c.Line())
	}
	return out
}

// fork is another one like it.
func (s *side[T]) fork() side[T] {
	other := side[T]{messages: map[key][]string{}}
	for k, c := range s.all {
		other.put(k, c.Fork())
	}
	for peer, t := range s.tombs {
		other.tombs[peer] = t.Fork()
	}
	for k, messages := range s.messages {
		other.messages[k] = slices.Clip(messages) // or both would add theirs at one place
	}
	return other
}
