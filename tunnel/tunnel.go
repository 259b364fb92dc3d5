// Package tunnel is what both ends of a softwire do alike: the customer's element (see ../../shared/doc/32-b4.md) and the provider's (see ../../shared/doc/33-aftr.md).
package tunnel

import (
	"slices"

	"goosepond/api"
	"goosepond/cut6"
	"goosepond/icmp6"
	"goosepond/join"
	"goosepond/relay"
	"goosepond/v4"
	"goosepond/v6"
	"goosepond/wrap"
)

const ids = 1 << 32 // how many identifiers of fragments there are

// Cut is the bytes of p, or of its fragments, if the tunnel takes no more than mtu, and the next identifier: only fragments take one.
func Cut(p api.V6, id, mtu int) ([][]byte, int, api.Errno) {
	parts, e := cut6.Cut(p, id, mtu)
	if e != api.OK {
		return nil, 0, e
	}
	var out [][]byte
	for _, part := range parts {
		// It can't fail: Cut has taken what it is of.
		b, _ := v6.Build(part)
		out = append(out, b)
	}
	if len(parts) > 1 {
		id = (id + 1) % ids
	}
	return out, id, api.OK
}

// Whole is p, if it is no fragment, or the packet whose last missing one it is; else why there is none: it may be that p waits among these parts, for no reason to drop.
func Whole(parts *join.Table, p api.V6, now int) (api.V6, bool, int) {
	if p.Next != api.ProtoFrag {
		return p, true, api.DropNone
	}
	f, b, ok := cut6.Part(p)
	if !ok {
		return api.V6{}, false, api.DropForm
	}
	head, all, done, e := parts.Add(key(p, f.ID), f.Off, f.More, b, string([]byte{byte(f.Next)}), now)
	if e != api.OK || !done {
		return api.V6{}, false, Refused(e)
	}
	// There is a head: nothing is done without the part that begins at 0.
	p.Next, p.Data = int(head[0]), all
	return p, true, api.DropNone
}

// Refused is the reason why a buffer did not take a part, or none, if it did.
func Refused(e api.Errno) int {
	switch e {
	case api.OK:
		return api.DropNone
	case api.ErrFull:
		return api.DropFull
	case api.ErrTwice:
		return api.DropOverlap
	}
	return api.DropForm
}

// Within is the packet of IPv4 that p, which is whole, has within, or the reason why there is none.
func Within(p api.V6) (api.V4, int) {
	b, e := wrap.Unwrap(p)
	if e != api.OK {
		return api.V4{}, api.DropProto
	}
	q, e := v4.Parse(b)
	if e != api.OK {
		return api.V4{}, api.DropForm
	}
	return q, api.DropNone
}

// Told is what p, a message, tells of the way of what own sent: to which end that was sent, and the packet from an address that tells it to who sent what was within; or the reason why there is none.
func Told(own api.Six, from int, p api.V6) (api.Six, api.V4, int) {
	m, e := icmp6.Parse(p.Src, p.Dst, p.Data)
	if e != api.OK {
		return api.Six{}, api.V4{}, api.DropForm
	}
	told, e := relay.Of(own, m)
	if e != api.OK {
		return api.Six{}, api.V4{}, api.DropProto
	}
	q, e := relay.Packet(from, told)
	if e != api.OK {
		return api.Six{}, api.V4{}, api.DropProto
	}
	return told.Peer, q, api.DropNone
}

// key is that of the buffer for p's parts.
func key(p api.V6, id int) string {
	number := []byte{byte(id >> 24), byte(id >> 16), byte(id >> 8), byte(id)}
	return "6" + string(slices.Concat(p.Src[:], p.Dst[:], number))
}
