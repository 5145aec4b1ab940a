package host

import (
	"nozzle/api"
	"nozzle/pacer"
	"nozzle/receiver"
	"nozzle/wire"
)

// Arrive takes bytes that came.
func (h *Host) Arrive(b []byte) ([]api.Packet, api.Errno) {
	if !h.isMade() {
		return nil, api.ErrNil
	}
	h.counts.Arrived++
	p, e := wire.Decode(b)
	if e != api.OK {
		h.counts.Bad++
		return nil, e
	}
	if p.Dst != h.id || !h.isHost(p.Src) {
		h.counts.Wrong++
		return nil, api.ErrHost
	}
	if p.Kind == api.Data && !has(p, api.Bounced) {
		return h.counted(h.receive(p)), api.OK
	}
	return h.counted(h.answered(p)), api.OK
}

// has tells whether a valid packet has a flag.
func has(p api.Packet, flag int) bool { return p.Flags&flag != 0 }

// from is the connection, to the host or from it, that a packet which came is of.
func from(p api.Packet) key { return key{p.Src, p.Conn} }

// answered takes what came on account of a connection on which the host sends.
func (h *Host) answered(p api.Packet) []api.Packet {
	k := from(p)
	s, ok := h.sending.find(k)
	if !ok {
		h.counts.Stray++
		return nil
	}
	out := s.Take(p)
	h.sending.settle(k, s)
	return out
}

// receive takes data that came to the host.
func (h *Host) receive(p api.Packet) []api.Packet {
	k := from(p)
	switch r, ok := h.receiving.find(k); {
	case ok:
		return h.take(r, p)
	case h.receiving.isClosed(k):
		return []api.Packet{{Kind: api.Ack, Path: p.Path, Src: h.id, Dst: p.Src, Conn: p.Conn, Seq: p.Seq}}
	case !has(p, api.First):
		h.counts.Stray++
		return nil
	case !h.receiving.may(k):
		h.counts.Refused++
		return nil
	}
	return h.take(h.begin(p), p)
}

// begin creates the connection whose first packet came.
func (h *Host) begin(p api.Packet) *receiver.Receiver {
	class := 0
	if has(p, api.Urgent) {
		class = 1
	}
	r, _ := receiver.New(h.conf, p.Src, h.id, p.Conn, class)
	h.receiving.put(from(p), r)
	h.pacer.Know(pulled(p), class)
	return r
}

// pulled is the connection of a packet that came, as the pacer knows it.
func pulled(p api.Packet) pacer.Key { return pacer.Key{Src: p.Src, Conn: p.Conn} }

// take lets a connection take data that came.
func (h *Host) take(r *receiver.Receiver, p api.Packet) []api.Packet {
	pending := r.Pending()
	out, messages := r.Take(p)
	if r.Pending() > pending {
		h.pacer.Owe(pulled(p), 1)
	}
	h.receiving.keep(from(p), messages...)
	if h.receiving.settle(from(p), r) {
		h.pacer.Forget(pulled(p))
	}
	return out
}
