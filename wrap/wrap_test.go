package wrap_test

import (
	"bytes"
	"math"
	"math/rand/v2"
	"reflect"
	"slices"
	"testing"

	"goosepond/api"
	"goosepond/v4"
	"goosepond/v6"
	"goosepond/wrap"
)

// src and dst differ in every byte.
var (
	src = api.Six{0x20, 1, 2, 3, 4, 5, 6, 7, 8, 9, 10, 11, 12, 13, 14, 15}
	dst = api.Six{0xFD, 21, 22, 23, 24, 25, 26, 27, 28, 29, 30, 31, 32, 33, 34, 35}
)

// spare is b with room behind that holds 0xEE.
func spare(b []byte) []byte {
	s := append(slices.Clone(b), bytes.Repeat([]byte{0xEE}, 8)...)
	return s[:len(b)]
}

// spoil writes over a list, and the room behind it.
func spoil(b []byte) {
	b = b[:cap(b)]
	for i := range b {
		b[i] ^= 0x55
	}
}

// untouched fails if b, made by spare, is not want any more, or its room not as it was.
func untouched(t *testing.T, b, want []byte) {
	t.Helper()
	if !bytes.Equal(b, want) || !bytes.Equal(b[len(b):len(b)+8], bytes.Repeat([]byte{0xEE}, 8)) {
		t.Errorf("what was handed in is %v now, with %v behind; it was %v", b, b[len(b):len(b)+8], want)
	}
}

// P29.1: Wrap, field by field, at the bounds of hops and of bytes.
func TestWrap(t *testing.T) {
	for _, c := range []struct{ hop, size int }{
		{0, 0}, {1, 1}, {64, 20}, {255, 1280}, {64, 65534}, {64, 65535}, {0, 65535},
	} {
		b := bytes.Repeat([]byte{7, 8, 9}, 65535)[:c.size]
		got, e := wrap.Wrap(src, dst, c.hop, b)
		want := api.V6{Next: 4, Hop: c.hop, Src: src, Dst: dst, Data: b}
		if e != api.OK || !v6.Same(got, want) {
			t.Errorf("Wrap(.., %d, %d bytes) = %v, %d", c.hop, c.size, got, e)
		}
	}
}

// P29.1: the bytes need be no packet, the addresses no hosts, and nil is as good as an empty list.
func TestWrapAnything(t *testing.T) {
	for _, b := range [][]byte{nil, {}, {0}, {0x60, 1, 2}} {
		got, e := wrap.Wrap(api.Six{}, api.Six{}, 9, b)
		if e != api.OK || !v6.Same(got, api.V6{Next: 4, Hop: 9, Data: b}) {
			t.Errorf("Wrap(.., 9, %v) = %v, %d", b, got, e)
		}
	}
}

// P29.1: v6.Check's errors, in its order, and nothing beside them.
func TestWrapErrors(t *testing.T) {
	for _, c := range []struct {
		hop, size int
		want      api.Errno
	}{
		{-1, 20, api.ErrArg},
		{256, 20, api.ErrArg},
		{math.MinInt, 20, api.ErrArg},
		{math.MaxInt, 20, api.ErrArg},
		{64, 65536, api.ErrLong},
		{64, 100000, api.ErrLong},
		{256, 65536, api.ErrArg},
	} {
		got, e := wrap.Wrap(src, dst, c.hop, make([]byte, c.size))
		if e != c.want || !reflect.DeepEqual(got, api.V6{}) {
			t.Errorf("Wrap(.., %d, %d bytes) = %v, %d; want %d", c.hop, c.size, got, e, c.want)
		}
	}
}

// P29.1: Unwrap, by every Next; nothing else of the packet is looked at.
func TestUnwrap(t *testing.T) {
	for _, n := range append([]int{math.MinInt, math.MaxInt, -4, 260}, slices.Collect(rangeOf(-1, 257))...) {
		got, e := wrap.Unwrap(api.V6{Traffic: -1, Flow: -1, Hop: -1, Next: n, Data: []byte{1, 2, 3}})
		if n == 4 {
			if e != api.OK || !bytes.Equal(got, []byte{1, 2, 3}) {
				t.Errorf("Unwrap of Next 4 = %v, %d", got, e)
			}
			continue
		}
		if e != api.ErrForm || len(got) != 0 {
			t.Errorf("Unwrap of Next %d = %v, %d", n, got, e)
		}
	}
	for _, size := range []int{0, 65535, 65536} {
		got, e := wrap.Unwrap(api.V6{Next: 4, Data: make([]byte, size)})
		if e != api.OK || len(got) != size {
			t.Errorf("Unwrap of %d bytes = %d bytes, %d", size, len(got), e)
		}
	}
}

// rangeOf goes through the numbers from lo to hi less 1.
func rangeOf(lo, hi int) func(yield func(int) bool) {
	return func(yield func(int) bool) {
		for i := lo; i < hi && yield(i); i++ {
		}
	}
}

// P29.1: Hop, by every TTL; the chapter's example among them.
func TestHop(t *testing.T) {
	for _, ttl := range append([]int{math.MinInt, -255, math.MaxInt}, slices.Collect(rangeOf(-2, 300))...) {
		p := api.V4{TOS: 1, ID: 2, Off: 8, TTL: ttl, Proto: 17, Src: 3, Dst: 4, DF: true, MF: true, Options: []byte{1, 1, 1, 0}, Data: []byte{5, 6}}
		got, ok := wrap.Hop(p)
		if ttl <= 1 {
			if ok || !reflect.DeepEqual(got, api.V4{}) {
				t.Errorf("Hop of TTL %d = %v, %t", ttl, got, ok)
			}
			continue
		}
		want := p
		want.TTL = ttl - 1
		if !ok || !v4.Same(got, want) {
			t.Errorf("Hop of TTL %d = %v, %t", ttl, got, ok)
		}
	}
}

// P29.1: Room, at its bounds.
func TestRoom(t *testing.T) {
	for _, c := range []struct{ mtu, want int }{
		{math.MinInt, 0}, {math.MinInt + 39, 0}, {-1280, 0}, {-1, 0}, {0, 0}, {1, 0}, {39, 0}, {40, 0}, {41, 1}, {80, 40},
		{1280, 1240}, {1500, 1460}, {65535, 65495}, {math.MaxInt, math.MaxInt - 40},
	} {
		if got := wrap.Room(c.mtu); got != c.want {
			t.Errorf("Room(%d) = %d; want %d", c.mtu, got, c.want)
		}
	}
}

// P29.1: what is wrapped in Room's bytes is as great as the MTU.
func TestRoomIsFilled(t *testing.T) {
	for _, mtu := range []int{40, 41, 1280, 1500, 65535} {
		p, e := wrap.Wrap(src, dst, 64, make([]byte, wrap.Room(mtu)))
		if b, f := v6.Build(p); e != api.OK || f != api.OK || len(b) != mtu {
			t.Errorf("what fills the room of %d has %d bytes, %d, %d", mtu, len(b), e, f)
		}
	}
}

// P29.2: Unwrap of Wrap is the bytes, also on the way as bytes.
func TestUnwrapOfWrap(t *testing.T) {
	rnd := rand.New(rand.NewPCG(29, 2))
	for range 500 {
		b := make([]byte, rnd.IntN(3000))
		for i := range b {
			b[i] = byte(rnd.Uint32())
		}
		p, e := wrap.Wrap(src, dst, rnd.IntN(256), b)
		if e != api.OK {
			t.Fatal(e)
		}
		if got, e := wrap.Unwrap(p); e != api.OK || !bytes.Equal(got, b) {
			t.Fatalf("Unwrap of Wrap of %v = %v, %d", b, got, e)
		}
		built, e := v6.Build(p)
		q, f := v6.Parse(built)
		if got, g := wrap.Unwrap(q); e != api.OK || f != api.OK || g != api.OK || !bytes.Equal(got, b) {
			t.Fatalf("Unwrap of Parse of Build of Wrap of %v = %v, %d, %d, %d", b, got, e, f, g)
		}
	}
}

// R3: nothing that is handed in is changed, and nothing that is answered is shared with it.
func TestSharesNothing(t *testing.T) {
	want := []byte{1, 2, 3, 4}
	b := spare(want)
	p, _ := wrap.Wrap(src, dst, 64, b)
	spoil(p.Data)
	untouched(t, b, want)

	within, _ := wrap.Unwrap(api.V6{Next: 4, Data: b})
	spoil(within)
	untouched(t, b, want)

	options := spare(want)
	on, _ := wrap.Hop(api.V4{TTL: 9, Options: options, Data: b})
	spoil(on.Options)
	untouched(t, b, want)
	spoil(on.Data)
	untouched(t, b, want)
	untouched(t, options, want)
}
