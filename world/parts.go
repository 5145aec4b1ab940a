package world

import (
	"nozzle/api"
	"nozzle/fabric"
	"nozzle/host"
	"nozzle/wire"
)

// parts is what a world has. It stands apart, or the calls of its fabric would be the World's too, and move packets past Do.
type parts struct {
	*fabric.Fabric
	hosts [api.MaxHosts]*host.Host // nil: there is none, and its methods tell nothing
	steps int
}

// host is one with its number; nil: there is none.
func (p *parts) host(id int) *host.Host {
	if id < 0 || id >= len(p.hosts) {
		return nil
	}
	return p.hosts[id]
}

// do lets a step happen, and tells what came of it.
func (p *parts) do(s api.Step) api.Told {
	if s.Op < api.Open || s.Op > api.Inject {
		return api.Told{E: api.ErrWorld}
	}
	h := p.host(s.Host)
	if h == nil {
		return api.Told{E: api.ErrRange}
	}
	if s.Op == api.Serve {
		return p.serve(h, s)
	}
	told, out := act(h, s)
	p.Put(out...)
	return told
}

// act is what a host itself does in a step, and the packets that it returns.
func act(h *host.Host, s api.Step) (told api.Told, out []api.Packet) {
	switch s.Op {
	case api.Open:
		told.Conn, told.E = h.Open(s.Peer, s.Class)
	case api.Send:
		out, told.E = h.Send(s.Peer, s.Conn, s.Bytes)
	case api.Close:
		out, told.E = h.Close(s.Peer, s.Conn)
	case api.Tick:
		out = h.Tick()
	case api.Inject:
		out, told.E = h.Arrive(s.Bytes)
		told.Arrived = 1
	}
	return told, out
}

// serve lets a port serve, and what comes out arrive.
func (p *parts) serve(h *host.Host, s api.Step) api.Told {
	packets, e := p.Serve(s.Path, s.Host, s.Fate)
	told := api.Told{E: e}
	for _, x := range packets {
		told.Bytes, _ = wire.Encode(x) // what a port keeps may be encoded
		told.Arrived++
		answers, _ := h.Arrive(told.Bytes)
		p.Put(answers...)
	}
	return told
}

// fork is another one like it.
func (p *parts) fork() *parts {
	other := *p
	other.Fabric = p.Fabric.Fork()
	for id, h := range p.hosts {
		other.hosts[id] = h.Fork() // where there is none, there is none
	}
	return &other
}
