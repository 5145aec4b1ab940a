package tomb

import "nozzle/api"

// Tombs are those of all hosts.
type Tombs struct {
	hosts int // 0: NewAll did not make them
	tombs [api.MaxHosts]Tomb
}

// NewAll is one of each host, in which nothing is closed.
func NewAll(hosts, span int) (*Tombs, api.Errno) {
	if !isFrom(hosts, 1, api.MaxHosts) {
		return nil, api.ErrTomb
	}
	one, e := New(span)
	if e != api.OK {
		return nil, e
	}
	t := &Tombs{hosts: hosts}
	for host := range hosts {
		t.tombs[host] = *one
	}
	return t, api.OK
}

// Of is a host's.
func (t *Tombs) Of(host int) *Tomb {
	if t == nil || !isFrom(host, 0, t.hosts-1) {
		return nil
	}
	return &t.tombs[host]
}

// Count is how many numbers above their floors are closed, in all of them together.
func (t *Tombs) Count() int {
	if t == nil {
		return 0
	}
	count := 0
	for host := range t.hosts {
		count += t.tombs[host].Count()
	}
	return count
}
