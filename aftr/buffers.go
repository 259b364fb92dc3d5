package aftr

import (
	"slices"

	"goosepond/api"
	"goosepond/join"
	"goosepond/tunnel"
	"goosepond/v4"
)

// buffers are the parts of packets that wait for the rest of them, at the time that it is: of those of the tunnel, and of those that are within, or come from the Internet.
type buffers struct {
	outer, inner *join.Table
	now          int
}

// newBuffers are buffers at the time 0, which each have as much room as c says.
func newBuffers(c api.Config) (buffers, api.Errno) {
	outer, e := join.New(c.Buffers, c.Bytes, c.Frag)
	if e != api.OK {
		return buffers{}, e
	}
	inner, e := join.New(c.Buffers, c.Bytes, c.Frag)
	if e != api.OK {
		return buffers{}, e
	}
	return buffers{outer: outer, inner: inner}, api.OK
}

// expire makes the time now, if that is later, and drops what has waited in vain.
func (b *buffers) expire(now int) {
	b.now = max(b.now, min(now, api.MaxTime))
	b.outer.Expire(b.now)
	b.inner.Expire(b.now)
}

// size is how many bytes all buffers have, and how many buffers there are.
func (b *buffers) size() (int, int) {
	return b.outer.Bytes() + b.inner.Bytes(), b.outer.Bufs() + b.inner.Bufs()
}

// wholeOuter is p, or the packet of the tunnel whose last missing fragment it is; else why there is none, if p is not kept.
func (b *buffers) wholeOuter(p api.V6) (api.V6, bool, int) {
	return tunnel.Whole(b.outer, p, b.now)
}

// wholeInner is p, or the packet whose last missing fragment it is; else why there is none, if p is not kept. Fragments from one softwire, or from the Internet, make packets among themselves alone.
func (b *buffers) wholeInner(from int, p api.V4) (api.V4, bool, int) {
	if v4.Whole(p) {
		return p, true, api.DropNone
	}
	text, all, done, e := b.inner.Add(key(from, p), p.Off, p.MF, p.Data, head(p), b.now)
	if e != api.OK || !done {
		return api.V4{}, false, tunnel.Refused(e)
	}
	whole, e := v4.Parse([]byte(text))
	whole.Data = all
	// The head and the data may be, each alone; together they may be too long.
	if e != api.OK || v4.Check(whole) != api.OK {
		return api.V4{}, false, api.DropForm
	}
	return whole, true, api.DropNone
}

// key is that of the buffer for p's parts. The Internet's byte is 255, which no softwire has.
func key(from int, p api.V4) string {
	return "4" + string(slices.Concat(
		number(from, 1),
		number(p.Src, 4),
		number(p.Dst, 4),
		number(p.Proto, 1),
		number(p.ID, 2),
	))
}

// number is the last size bytes of n, the highest first.
func number(n, size int) []byte {
	b := make([]byte, size)
	for i := range b {
		b[size-1-i] = byte(n >> (8 * i))
	}
	return b
}

// head is the bytes of p as the head of the packet that it is a fragment of.
func head(p api.V4) string {
	p.Off, p.MF, p.Data = 0, false, nil
	return string(built(p))
}
