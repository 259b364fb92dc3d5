package napt

import (
	"bytes"
	"errors"
	"strconv"

	"goosepond/api"
	"goosepond/icmp"
	"goosepond/ports"
	"goosepond/quote"
	"goosepond/state"
	"goosepond/v4"
)

const echoReply = 0 // the kind of a message that answers another, and begins nothing

// drop is why a packet does not go on: one of the reasons.
type drop int

// packet is a whole packet, and what was found in it.
type packet struct {
	api.V4
	ends
	message api.ICMP // of a packet of ICMP
	fault   bool     // tells the message of a fault? Then the ends are those of what it quotes
}

// ends are where a packet comes from and goes to, with its ports, or its identifier at both.
type ends struct {
	proto    int
	src, dst api.Remote
}

// Error tells the reason's number.
func (d drop) Error() string {
	return "dropped for the reason " + strconv.Itoa(int(d))
}

// reason is why a packet does not go on that err is of.
func reason(err error) int {
	var d drop
	if errors.As(err, &d) {
		return int(d)
	}
	return api.DropForm
}

// open looks into p.
func open(p api.V4) (packet, error) {
	if v4.Check(p) != api.OK || !v4.Whole(p) {
		return packet{}, drop(api.DropForm)
	}
	var m api.ICMP
	if p.Proto == api.ProtoICMP {
		read, errno := icmp.Parse(p.Data)
		if errno == api.OK && icmp.Fault(read.Type) {
			return openFault(p, read)
		}
		m = read
	}
	found, errno := ports.Of(p)
	switch errno {
	case api.OK:
		return packet{V4: p, ends: between(p, found), message: m}, nil
	case api.ErrNone:
		return packet{}, drop(api.DropProto)
	}
	return packet{}, drop(api.DropForm)
}

// openFault looks into p, whose message tells of a fault.
func openFault(p api.V4, m api.ICMP) (packet, error) {
	quoted, found, errno := quote.Ports(m.Data)
	if errno != api.OK {
		return packet{}, drop(api.DropForm)
	}
	return packet{V4: p, ends: between(quoted, found), message: m, fault: true}, nil
}

// between are the ends that p has by its ports.
func between(p api.V4, found api.Ports) ends {
	return ends{
		proto: found.Proto,
		src:   api.Remote{Addr: p.Src, Port: found.Src},
		dst:   api.Remote{Addr: p.Dst, Port: found.Dst},
	}
}

// inner is one of the ends, behind a softwire.
func (e ends) inner(softwire int, end api.Remote) api.Inner {
	return api.Inner{Softwire: softwire, Proto: e.proto, Addr: end.Addr, Port: end.Port}
}

// outer is one of the ends, at the pool.
func (e ends) outer(end api.Remote) api.Outer {
	return api.Outer{Proto: e.proto, Addr: end.Addr, Port: end.Port}
}

// remote is one of the ends, in the Internet. An identifier is the sender's, so that it is no part of who is sent to.
func (e ends) remote(end api.Remote) api.Remote {
	if e.proto == api.ProtoICMP {
		end.Port = 0
	}
	return end
}

// next is the state behind p, and whether p may be in the one that was. Only segments have states.
func (p packet) next(was int, out bool) (int, bool) {
	if p.proto != api.ProtoTCP {
		return api.StateNone, true
	}
	return state.Next(was, out, ports.Flags(p.V4))
}

// isReply tells whether p answers another packet.
func (p packet) isReply() bool {
	return p.proto == api.ProtoICMP && p.message.Type == echoReply
}

// done is a packet that was built anew, if it could be.
func done(p api.V4, errno api.Errno) (api.V4, error) {
	if errno != api.OK {
		return api.V4{}, drop(api.DropForm)
	}
	return p, nil
}

// telling is p with this message, if there is one.
func (p packet) telling(m api.ICMP, errno api.Errno) (api.V4, error) {
	if errno != api.OK {
		return api.V4{}, drop(api.DropForm)
	}
	b, errno := icmp.Build(m)
	p.Options, p.Data = bytes.Clone(p.Options), b
	return done(p.V4, errno)
}
