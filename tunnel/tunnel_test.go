package tunnel_test

import (
	"bytes"
	"reflect"
	"slices"
	"testing"

	"goosepond/api"
	"goosepond/icmp"
	"goosepond/icmp6"
	"goosepond/join"
	"goosepond/tunnel"
	"goosepond/udp"
	"goosepond/v4"
	"goosepond/v6"
)

const (
	host = 0x0A000001 // 10.0.0.1
	far  = 0xCB007101 // 203.0.113.1
	self = 0xC0000002 // 192.0.0.2
)

var (
	own  = api.Six{0x20, 1}
	peer = api.Six{0x20, 2}
	on   = api.Six{0x20, 3}
)

// sent is the bytes of a datagram with so many bytes of data.
func sent(t *testing.T, size int) []byte {
	t.Helper()
	d, _ := udp.Build(host, far, api.UDP{Src: 5, Dst: 6, Data: bytes.Repeat([]byte{1, 2, 3}, size)[:size]})
	b, e := v4.Build(api.V4{TTL: 9, Proto: 17, Src: host, Dst: far, Data: d})
	if e != api.OK {
		t.Fatal(e)
	}
	return b
}

// outer is a packet from own to peer.
func outer(next int, data []byte) api.V6 {
	return api.V6{Next: next, Hop: 7, Src: own, Dst: peer, Data: data}
}

// fragment is a packet with a fragment header, and data behind it.
func fragment(t *testing.T, f api.Frag, data []byte) api.V6 {
	t.Helper()
	b, e := v6.BuildFrag(f)
	if e != api.OK {
		t.Fatal(e)
	}
	return outer(44, append(b, data...))
}

func built(t *testing.T, l ...api.V6) [][]byte {
	t.Helper()
	var out [][]byte
	for _, p := range l {
		b, e := v6.Build(p)
		if e != api.OK {
			t.Fatal(e)
		}
		out = append(out, b)
	}
	return out
}

// P32.2, P33.2: what fits goes as it is; what does not takes an identifier, and the next one is one more, modulo 2^32.
func TestCut(t *testing.T) {
	data := bytes.Repeat([]byte{1, 2, 3, 4, 5}, 500)
	for _, c := range []struct {
		name          string
		size, id, mtu int
		next          int
		want          func() []api.V6
		e             api.Errno
	}{
		{"none", 0, 5, 1280, 5, func() []api.V6 { return []api.V6{outer(4, nil)} }, api.OK},
		{"as much as fits", 1240, 5, 1280, 5, func() []api.V6 { return []api.V6{outer(4, data[:1240])} }, api.OK},
		{"one more", 1241, 5, 1280, 6, func() []api.V6 {
			return []api.V6{
				fragment(t, api.Frag{Next: 4, More: true, ID: 5}, data[:1232]),
				fragment(t, api.Frag{Next: 4, Off: 1232, ID: 5}, data[1232:1241]),
			}
		}, api.OK},
		{"the last identifier", 1300, 1<<32 - 1, 1280, 0, func() []api.V6 {
			return []api.V6{
				fragment(t, api.Frag{Next: 4, More: true, ID: 1<<32 - 1}, data[:1232]),
				fragment(t, api.Frag{Next: 4, Off: 1232, ID: 1<<32 - 1}, data[1232:1300]),
			}
		}, api.OK},
		{"too small a tunnel", 1300, 5, 1279, 0, func() []api.V6 { return nil }, api.ErrArg},
		{"no identifier", 1300, -1, 1280, 0, func() []api.V6 { return nil }, api.ErrArg},
	} {
		got, next, e := tunnel.Cut(outer(4, data[:c.size]), c.id, c.mtu)
		if !slices.EqualFunc(got, built(t, c.want()...), bytes.Equal) || next != c.next || e != c.e {
			t.Errorf("%s: Cut = %v, %d, %d", c.name, got, next, e)
		}
	}
	if got, next, e := tunnel.Cut(outer(256, nil), 5, 1280); got != nil || next != 0 || e != api.ErrArg {
		t.Errorf("a packet that may not be: Cut = %v, %d, %d", got, next, e)
	}
	if got, next, e := tunnel.Cut(outer(4, make([]byte, 65536)), 5, 1280); got != nil || next != 0 || e != api.ErrLong {
		t.Errorf("one that is too long: Cut = %v, %d, %d", got, next, e)
	}
}

// wholes fails unless Whole answers this.
func wholes(t *testing.T, name string, parts *join.Table, p, want api.V6, done bool, why int) {
	t.Helper()
	got, ok, because := tunnel.Whole(parts, p, 0)
	if !v6.Same(got, want) || ok != done || because != why {
		t.Errorf("%s: Whole = %v, %v, %d; want %v, %v, %d", name, got, ok, because, want, done, why)
	}
}

// P32.3, P33.3: what is whole, what waits, and what is refused.
func TestWhole(t *testing.T) {
	parts, e := join.New(1, 24, 60)
	if e != api.OK {
		t.Fatal(e)
	}
	b := []byte("0123456789abcdefghi")
	none := api.V6{}
	for _, next := range []int{0, 4, 6, 58, 255} {
		wholes(t, "no fragment", parts, outer(next, b), outer(next, b), true, api.DropNone)
	}
	wholes(t, "less than a header", parts, outer(44, b[:7]), none, false, api.DropForm)
	wholes(t, "the last part", parts, fragment(t, api.Frag{Next: 6, Off: 16, ID: 0x01020304}, b[16:]), none, false, api.DropNone)
	if keys := parts.Keys(); len(keys) != 1 || keys[0] != "6"+string(own[:])+string(peer[:])+"\x01\x02\x03\x04" {
		t.Errorf("Keys = %q", keys)
	}
	wholes(t, "no room", parts, fragment(t, api.Frag{Next: 4, ID: 2}, b), none, false, api.DropFull)
	wholes(t, "the first part", parts, fragment(t, api.Frag{Next: 4, More: true, ID: 0x01020304}, b[:16]), outer(4, b), true, api.DropNone)
	wholes(t, "a first part", parts, fragment(t, api.Frag{Next: 4, More: true, ID: 0x01020304}, b[:16]), none, false, api.DropNone)
	wholes(t, "overlapping", parts, fragment(t, api.Frag{Next: 4, Off: 8, ID: 0x01020304}, b[8:16]), none, false, api.DropOverlap)
	wholes(t, "of no form", parts, fragment(t, api.Frag{Next: 4, More: true, ID: 0x01020304}, b[:15]), none, false, api.DropForm)
	wholes(t, "no table", nil, fragment(t, api.Frag{Next: 4, More: true, ID: 0x01020304}, b[:16]), none, false, api.DropForm)
}

// P32.3, P33.3: a part waits from the time at which it came.
func TestWholeWaits(t *testing.T) {
	parts, e := join.New(1, 24, 60)
	if e != api.OK {
		t.Fatal(e)
	}
	tunnel.Whole(parts, fragment(t, api.Frag{Next: 4, More: true}, make([]byte, 8)), 100)
	if gone := parts.Expire(159); gone != nil {
		t.Errorf("gone are %q", gone)
	}
	if gone := parts.Expire(160); len(gone) != 1 {
		t.Errorf("gone are %q", gone)
	}
}

// P32.3: the reason for each error.
func TestRefused(t *testing.T) {
	for e := api.OK; e <= api.ErrWord+1; e++ {
		want := api.DropForm
		switch e {
		case api.OK:
			want = api.DropNone
		case api.ErrFull:
			want = api.DropFull
		case api.ErrTwice:
			want = api.DropOverlap
		}
		if got := tunnel.Refused(e); got != want {
			t.Errorf("Refused(%d) = %d; want %d", e, got, want)
		}
	}
}

// P32.3, P33.3: what is within.
func TestWithin(t *testing.T) {
	b := sent(t, 30)
	want, _ := v4.Parse(b)
	if p, why := tunnel.Within(outer(4, b)); !v4.Same(p, want) || why != api.DropNone {
		t.Errorf("Within = %v, %d", p, why)
	}
	if p, why := tunnel.Within(outer(4, b[:len(b)-1])); !reflect.DeepEqual(p, api.V4{}) || why != api.DropForm {
		t.Errorf("no packet: Within = %v, %d", p, why)
	}
	if p, why := tunnel.Within(outer(6, b)); !reflect.DeepEqual(p, api.V4{}) || why != api.DropProto {
		t.Errorf("of another Next: Within = %v, %d", p, why)
	}
}

// P32.3, P33.3: what a message tells, and what of it does not go on.
func TestTold(t *testing.T) {
	b := sent(t, 30)
	message := func(m api.ICMP) api.V6 {
		d, e := icmp6.Build(on, own, m)
		if e != api.OK {
			t.Fatal(e)
		}
		return api.V6{Next: 58, Src: on, Dst: own, Data: d}
	}
	quoted := built(t, outer(4, b))[0]
	m, _ := icmp.Build(api.ICMP{Type: 3, Code: 4, Rest: 1360, Data: b})
	want := api.V4{TTL: 64, Proto: 1, Src: self, Dst: host, Data: m}
	a, p, why := tunnel.Told(own, self, message(api.ICMP{Type: 2, Rest: 1400, Data: quoted}))
	if a != peer || !v4.Same(p, want) || why != api.DropNone {
		t.Errorf("Told = %v, %v, %d; want %v, %v", a, p, why, peer, want)
	}
	wrong := message(api.ICMP{Type: 2, Rest: 1400, Data: quoted})
	wrong.Data[3] ^= 1
	late := with(quoted, 40+6, 0, 1) // a later fragment within
	for _, c := range []struct {
		name string
		own  api.Six
		p    api.V6
		want int
	}{
		{"a wrong sum", own, wrong, api.DropForm},
		{"no message", own, api.V6{Next: 58, Src: on, Dst: own}, api.DropForm},
		{"another kind", own, message(api.ICMP{Type: 128, Data: quoted}), api.DropProto},
		{"of another", peer, message(api.ICMP{Type: 2, Data: quoted}), api.DropProto},
		{"of what nothing is told", own, message(api.ICMP{Type: 2, Data: late}), api.DropProto},
	} {
		if a, p, why := tunnel.Told(c.own, self, c.p); a != (api.Six{}) || !reflect.DeepEqual(p, api.V4{}) || why != c.want {
			t.Errorf("%s: Told = %v, %v, %d; want %d", c.name, a, p, why, c.want)
		}
	}
}

// with is b with other bytes from a place on.
func with(b []byte, at int, to ...byte) []byte {
	c := slices.Clone(b)
	copy(c[at:], to)
	return c
}
