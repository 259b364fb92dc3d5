package aftr

import (
	"goosepond/api"
	"goosepond/clamp"
	"goosepond/config"
	"goosepond/cut4"
	"goosepond/errs"
	"goosepond/tunnel"
	"goosepond/v4"
	"goosepond/v6"
	"goosepond/wrap"
)

// What is told of faults (RFC 792, RFC 1191): kinds of messages, and codes of the first one.
const (
	unreachable = 3
	exceeded    = 11

	host   = 1
	tooBig = 4
)

// up is what goes out of the tunnel's bytes. What tells of a fault may come from anywhere on the way, all else from a softwire alone.
func (x *AFTR) up(b []byte) ([]Way, int) {
	p, e := v6.Parse(b)
	switch {
	case e != api.OK:
		return nil, api.DropForm
	case p.Dst != x.settings.AFTR:
		return nil, api.DropSource
	case p.Next == api.ProtoICMP6:
		return x.told(p)
	}
	softwire, known := config.Softwire(x.settings, p.Src)
	if !known {
		return nil, api.DropSource
	}
	return x.from(softwire, p)
}

// told is what goes out of a message that tells of the tunnel.
func (x *AFTR) told(p api.V6) ([]Way, int) {
	peer, q, why := tunnel.Told(x.settings.AFTR, Addr(), p)
	if why != api.DropNone {
		return nil, why
	}
	softwire, known := config.Softwire(x.settings, peer)
	if !known {
		return nil, api.DropProto
	}
	return x.outbound(softwire, q)
}

// from is what goes out of a softwire's packet: of a fragment nothing, but of the one that was missing.
func (x *AFTR) from(softwire int, p api.V6) ([]Way, int) {
	p, done, why := x.wholeOuter(p)
	if !done {
		return nil, why
	}
	q, why := tunnel.Within(p)
	if why != api.DropNone {
		return nil, why
	}
	q, done, why = x.wholeInner(softwire, q)
	if !done {
		return nil, why
	}
	return x.outbound(softwire, q)
}

// outbound is what goes out of a softwire's packet of IPv4. Who sent it is told if there is nothing left to bind it with.
func (x *AFTR) outbound(softwire int, p api.V4) ([]Way, int) {
	q, why := x.engine.Out(softwire, x.clamped(p))
	switch why {
	case api.DropNone:
		if x.engine.Has(q.Dst) {
			return x.inbound(q, true)
		}
		return x.away(softwire, p, q)
	case api.DropQuota, api.DropFull, api.DropPool:
		return x.tell(softwire, host, 0, p), why
	}
	return nil, why
}

// away is what goes to the Internet of q, which p became, that came from a softwire: who sent it is told if that is too long.
func (x *AFTR) away(softwire int, p, q api.V4) ([]Way, int) {
	parts, e := cut4.Cut(q, x.settings.NetMTU)
	if e != api.OK {
		return x.tell(softwire, tooBig, x.settings.NetMTU, p), api.DropLong
	}
	var out []Way
	for _, part := range parts {
		out = append(out, Way{Softwire: internet, Bytes: built(part)})
	}
	return out, api.DropNone
}

// in is what goes out of the Internet's bytes.
func (x *AFTR) in(b []byte) ([]Way, int) {
	p, e := v4.Parse(b)
	if e != api.OK {
		return nil, api.DropForm
	}
	if !x.engine.Has(p.Dst) {
		return nil, api.DropBinding
	}
	p, done, why := x.wholeInner(internet, p)
	if !done {
		return nil, why
	}
	return x.inbound(p, false)
}

// inbound is what goes out of a packet to the pool, that comes from the Internet, or from within.
func (x *AFTR) inbound(p api.V4, within bool) ([]Way, int) {
	q, goes := wrap.Hop(p)
	switch {
	case !goes && within:
		return nil, api.DropTTL
	case !goes:
		return over(p), api.DropTTL
	}
	softwire, q, why := x.engine.In(q)
	if why != api.DropNone {
		return nil, why
	}
	return x.down(softwire, x.clamped(q)), api.DropNone
}

// down is p on its way into a softwire. None of this can fail: p may be, and New has taken the settings.
func (x *AFTR) down(softwire int, p api.V4) []Way {
	q, _ := wrap.Wrap(x.settings.AFTR, x.settings.Softwires[softwire], x.settings.Hop, built(p))
	parts, next, _ := tunnel.Cut(q, x.id, x.settings.TunnelMTU)
	x.id = next
	var out []Way
	for _, part := range parts {
		out = append(out, Way{Softwire: softwire, Bytes: part})
	}
	return out
}

// tell is what tells a softwire's host that its packet could not go on, if it may be told.
func (x *AFTR) tell(softwire, code, rest int, p api.V4) []Way {
	q, e := errs.Make(Addr(), unreachable, code, rest, built(p))
	if e != api.OK {
		return nil
	}
	return x.down(softwire, q)
}

// clamped is p, whose segment, if it begins a session, asks for no more than the settings leave.
func (x *AFTR) clamped(p api.V4) api.V4 {
	if x.settings.MSS == 0 {
		return p
	}
	return clamp.Packet(p, x.settings.MSS)
}

// over is what tells the Internet that the time of a packet to the pool is over, if it may be told.
func over(p api.V4) []Way {
	q, e := errs.Make(p.Dst, exceeded, 0, 0, built(p))
	if e != api.OK {
		return nil
	}
	return []Way{{Softwire: internet, Bytes: built(q)}}
}

// built is the bytes of p, which may be: it was parsed, or made by a layer below.
func built(p api.V4) []byte {
	b, _ := v4.Build(p)
	return b
}
