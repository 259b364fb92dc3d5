package udp_test

import (
	"bytes"
	"encoding/binary"
	"math"
	"math/rand/v2"
	"slices"
	"testing"

	"goosepond/api"
	"goosepond/udp"
)

const (
	src = 0x0A000001
	dst = 0xC0000201
)

// plain is a datagram with something in every field but NoSum.
func plain() api.UDP {
	return api.UDP{Src: 5000, Dst: 53, Data: []byte{9, 10, 11}}
}

// plainBytes are plain's between src and dst.
var plainBytes = []byte{0x13, 0x88, 0, 53, 0, 11, 0x0C, 0x0F, 9, 10, 11}

// with is plain, changed.
func with(change func(u *api.UDP)) api.UDP {
	u := plain()
	change(&u)
	return u
}

// raw is plainBytes, changed, and more behind, with a right sum of all.
func raw(change func(b []byte), behind ...byte) []byte {
	b := append(slices.Clone(plainBytes), behind...)
	change(b)
	return mend(b)
}

// mend gives b, between src and dst, its right sum, as long as all of b is told.
func mend(b []byte) []byte {
	b[6], b[7] = 0, 0
	binary.BigEndian.PutUint16(b[6:], 65535-slow(src, dst, b))
	return b
}

// slow adds all of a datagram's words, its pseudo header's among them, byte by byte.
func slow(src, dst uint32, b []byte) uint16 {
	n := uint64(src>>16) + uint64(src&65535) + uint64(dst>>16) + uint64(dst&65535) + 17 + uint64(len(b))
	for i, x := range b {
		if i%2 == 0 {
			n += 256 * uint64(x)
		} else {
			n += uint64(x)
		}
	}
	for n > 65535 {
		n -= 65535
	}
	return uint16(n)
}

// spare is b with room behind that holds 0xEE.
func spare(b []byte) []byte {
	s := append(slices.Clone(b), bytes.Repeat([]byte{0xEE}, 8)...)
	return s[:len(b)]
}

// untouched fails if b, made by spare, is not want any more, or its room not as it was.
func untouched(t *testing.T, b, want []byte) {
	t.Helper()
	if !bytes.Equal(b, want) || !bytes.Equal(b[len(b):len(b)+8], bytes.Repeat([]byte{0xEE}, 8)) {
		t.Errorf("what was handed in is %v now, with %v behind; it was %v", b, b[len(b):len(b)+8], want)
	}
}

// equal is Same in another way.
func equal(a, b api.UDP) bool {
	return a.Src == b.Src && a.Dst == b.Dst && a.NoSum == b.NoSum && string(a.Data) == string(b.Data)
}

func some(r *rand.Rand, n int) []byte {
	b := make([]byte, n)
	for i := range b {
		b[i] = byte(r.IntN(256))
	}
	return b
}

// P7.1: Pseudo, byte by byte; each number modulo what its bytes hold, from 0 on.
func TestPseudo(t *testing.T) {
	for _, c := range []struct {
		src, dst, proto, size int
		want                  []byte
	}{
		{0, 0, 0, 0, make([]byte, 12)},
		{0x01020304, 0x05060708, 9, 0x0A0B, []byte{1, 2, 3, 4, 5, 6, 7, 8, 0, 9, 10, 11}},
		{1<<32 - 1, 1<<32 - 2, 255, 65535, []byte{255, 255, 255, 255, 255, 255, 255, 254, 0, 255, 255, 255}},
		{1 << 32, 1<<32 + 5, 256, 65536, []byte{0, 0, 0, 0, 0, 0, 0, 5, 0, 0, 0, 0}},
		{7<<40 + 6, 1<<33 - 1, 0x1234, 0x12345, []byte{0, 0, 0, 6, 255, 255, 255, 255, 0, 0x34, 0x23, 0x45}},
		{-1, -2, -1, -1, []byte{255, 255, 255, 255, 255, 255, 255, 254, 0, 255, 255, 255}},
		{-1 << 32, -1<<32 + 3, -256, -65535, []byte{0, 0, 0, 0, 0, 0, 0, 3, 0, 0, 0, 1}},
		{math.MaxInt, math.MinInt, math.MaxInt, math.MinInt, []byte{255, 255, 255, 255, 0, 0, 0, 0, 0, 255, 0, 0}},
		{math.MinInt, math.MaxInt, math.MinInt, math.MaxInt, []byte{0, 0, 0, 0, 255, 255, 255, 255, 0, 0, 255, 255}},
	} {
		if b := udp.Pseudo(c.src, c.dst, c.proto, c.size); !bytes.Equal(b, c.want) {
			t.Errorf("Pseudo(%d, %d, %d, %d) = %x; want %x", c.src, c.dst, c.proto, c.size, b, c.want)
		}
	}
}

// R3: what Pseudo answers may be changed.
func TestPseudoIsNew(t *testing.T) {
	want := udp.Pseudo(src, dst, 17, 8)
	clear(udp.Pseudo(src, dst, 17, 8))
	if b := udp.Pseudo(src, dst, 17, 8); !bytes.Equal(b, want) {
		t.Errorf("Pseudo answers %x, after %x", b, want)
	}
}

// P7.1: Same, by every field, whether the datagram may be or not.
func TestSame(t *testing.T) {
	if !udp.Same(plain(), plain()) {
		t.Error("plain is not the same as plain")
	}
	for name, change := range map[string]func(u *api.UDP){
		"Src":            func(u *api.UDP) { u.Src += 65536 },
		"Dst":            func(u *api.UDP) { u.Dst = -1 },
		"Src and Dst":    func(u *api.UDP) { u.Src, u.Dst = u.Dst, u.Src },
		"NoSum":          func(u *api.UDP) { u.NoSum = true },
		"a byte of Data": func(u *api.UDP) { u.Data[2]++ },
		"less Data":      func(u *api.UDP) { u.Data = u.Data[:2] },
		"more Data":      func(u *api.UDP) { u.Data = append(u.Data, 0) },
		"no Data":        func(u *api.UDP) { u.Data = nil },
	} {
		other := with(change)
		if udp.Same(plain(), other) || udp.Same(other, plain()) {
			t.Errorf("with other %s it is the same", name)
		}
		if !udp.Same(other, with(change)) {
			t.Errorf("with other %s it is not the same as itself", name)
		}
	}
}

// R6: nil and an empty list are the same.
func TestSameOfNil(t *testing.T) {
	a, b := api.UDP{Src: 1}, api.UDP{Src: 1, Data: []byte{}}
	if !udp.Same(a, b) || !udp.Same(b, a) {
		t.Error("nil and an empty list are not the same")
	}
}

// P7.1: datagrams that may be, at their bounds.
func TestCheck(t *testing.T) {
	for name, u := range map[string]api.UDP{
		"zero":     {},
		"plain":    plain(),
		"no sum":   {NoSum: true},
		"greatest": {Src: 65535, Dst: 65535, Data: make([]byte, 65527)},
	} {
		if e := udp.Check(u); e != api.OK {
			t.Errorf("%s: Check = %d", name, e)
		}
	}
}

// P7.1: datagrams that may not be; Build has Check's error, and no bytes.
func TestCheckAndBuildErrors(t *testing.T) {
	for _, c := range []struct {
		name string
		u    api.UDP
		want api.Errno
	}{
		{"Src -1", api.UDP{Src: -1}, api.ErrArg},
		{"Src 65536", api.UDP{Src: 65536}, api.ErrArg},
		{"Src least", api.UDP{Src: math.MinInt}, api.ErrArg},
		{"Src greatest", api.UDP{Src: math.MaxInt, NoSum: true}, api.ErrArg},
		{"Dst -1", api.UDP{Dst: -1}, api.ErrArg},
		{"Dst 65536", api.UDP{Dst: 65536}, api.ErrArg},
		{"Dst least", api.UDP{Dst: math.MinInt, NoSum: true}, api.ErrArg},
		{"Dst greatest", api.UDP{Dst: math.MaxInt}, api.ErrArg},
		{"Data 65528", api.UDP{Data: make([]byte, 65528)}, api.ErrLong},
		{"Data 65536, no sum", api.UDP{Data: make([]byte, 65536), NoSum: true}, api.ErrLong},
		{"ErrArg ahead of ErrLong", api.UDP{Src: -1, Data: make([]byte, 65528)}, api.ErrArg},
		{"ErrArg of Dst ahead of ErrLong", api.UDP{Dst: 65536, Data: make([]byte, 65528)}, api.ErrArg},
	} {
		if e := udp.Check(c.u); e != c.want {
			t.Errorf("%s: Check = %d; want %d", c.name, e, c.want)
		}
		if b, e := udp.Build(src, dst, c.u); len(b) != 0 || e != c.want {
			t.Errorf("%s: Build = %d bytes, %d; want %d", c.name, len(b), e, c.want)
		}
	}
}

// P7.1: Build, byte by byte, whatever the addresses are.
func TestBuild(t *testing.T) {
	for _, c := range []struct {
		name     string
		src, dst int
		u        api.UDP
		want     []byte
	}{
		{"plain", src, dst, plain(), plainBytes},
		{"addresses turned round", dst, src, plain(), plainBytes},
		{"example 1", src, dst, api.UDP{Src: 1, Dst: 2}, []byte{0, 1, 0, 2, 0, 8, 0x33, 0xD9}},
		{"addresses of 0", 0, 0, api.UDP{Src: 1, Dst: 2}, []byte{0, 1, 0, 2, 0, 8, 0xFF, 0xDB}},
		{"addresses modulo 2^32", src + 1<<32, dst - 1<<32, plain(), plainBytes},
		{"no sum", src, dst, with(func(u *api.UDP) { u.NoSum = true }), []byte{0x13, 0x88, 0, 53, 0, 11, 0, 0, 9, 10, 11}},
		{"no sum, no data", -1, math.MaxInt, api.UDP{Src: 65535, Dst: 65534, NoSum: true}, []byte{255, 255, 255, 254, 0, 8, 0, 0}},
	} {
		if b, e := udp.Build(c.src, c.dst, c.u); !bytes.Equal(b, c.want) || e != api.OK {
			t.Errorf("%s: Build = %x, %d; want %x", c.name, b, e, c.want)
		}
	}
}

// P7.1: a sum that is 0 is told as 65535; P7.3: and is no NoSum.
func TestSumOfZero(t *testing.T) {
	for _, behind := range [][]byte{nil, {7}, {7, 8}} {
		u := api.UDP{Src: 5000, Dst: 53, Data: append([]byte{0, 0}, behind...)}
		b, _ := udp.Build(src, dst, u)
		copy(u.Data, b[6:8]) // all other words and this one add up to 65535
		b, e := udp.Build(src, dst, u)
		if e != api.OK || b[6] != 255 || b[7] != 255 || !bytes.Equal(b[8:], u.Data) {
			t.Errorf("Build of what has the sum 0 = %x, %d", b, e)
		}
		if p, e := udp.Parse(src, dst, b); e != api.OK || !equal(p, u) {
			t.Errorf("Parse of the sum 65535 = %v, %d; want %v", p, e, u)
		}
	}
}

// P7.1, P7.2: Build and Parse of the greatest datagram.
func TestGreat(t *testing.T) {
	for _, noSum := range []bool{false, true} {
		want := api.UDP{Src: 1, Dst: 2, NoSum: noSum, Data: bytes.Repeat([]byte{255, 254, 7}, 21843)[:65527]}
		b, e := udp.Build(src, dst, want)
		if e != api.OK || len(b) != 65535 || b[4] != 255 || b[5] != 255 || !bytes.Equal(b[8:], want.Data) {
			t.Fatalf("Build = %d bytes, %d", len(b), e)
		}
		if s := slow(src, dst, b); !noSum && s != 65535 {
			t.Errorf("the words add up to %d", s)
		}
		if u, e := udp.Parse(src, dst, b); e != api.OK || !equal(u, want) {
			t.Errorf("Parse = %d bytes of Data, %d", len(u.Data), e)
		}
		if u, e := udp.Parse(src, dst, append(b, 0)); e != api.ErrForm || !equal(u, api.UDP{}) {
			t.Errorf("Parse with a byte behind = %d bytes of Data, %d", len(u.Data), e)
		}
	}
}

// R3: what Build answers is new memory, and nothing that is handed in is changed.
func TestBuildSharesNothing(t *testing.T) {
	for _, noSum := range []bool{false, true} {
		data := spare(plain().Data)
		b, _ := udp.Build(src, dst, with(func(u *api.UDP) { u.Data, u.NoSum = data, noSum }))
		for i := range b {
			b[i] = 99
		}
		_ = append(b, 98, 97)
		untouched(t, data, plain().Data)
	}
}

// P7.2: Parse.
func TestParse(t *testing.T) {
	for _, c := range []struct {
		name     string
		src, dst int
		b        []byte
		want     api.UDP
	}{
		{"plain", src, dst, plainBytes, plain()},
		{"addresses turned round", dst, src, plainBytes, plain()},
		{"addresses modulo 2^32", src - 1<<32, dst + 1<<32, plainBytes, plain()},
		{"no data", src, dst, []byte{0, 1, 0, 2, 0, 8, 0x33, 0xD9}, api.UDP{Src: 1, Dst: 2}},
		{"no sum", src, dst, append([]byte{0x13, 0x88, 0, 53, 0, 11, 0, 0}, plainBytes[8:]...), with(func(u *api.UDP) { u.NoSum = true })},
		{"no sum between any addresses", 0, -1, append([]byte{0x13, 0x88, 0, 53, 0, 11, 0, 0}, plainBytes[8:]...), with(func(u *api.UDP) { u.NoSum = true })},
		{"no sum, no data", 1, 2, []byte{255, 254, 253, 252, 0, 8, 0, 0}, api.UDP{Src: 65534, Dst: 65020, NoSum: true}},
	} {
		if u, e := udp.Parse(c.src, c.dst, c.b); !equal(u, c.want) || e != api.OK {
			t.Errorf("%s: Parse = %v, %d; want %v", c.name, u, e, c.want)
		}
	}
}

// P7.2: Parse's errors, and which comes first. R2: what stands beside them is zero.
func TestParseErrors(t *testing.T) {
	for _, c := range []struct {
		name string
		b    []byte
		want api.Errno
	}{
		{"nothing", nil, api.ErrShort},
		{"7 bytes", plainBytes[:7], api.ErrShort},
		{"7 bytes that tell 7", []byte{0, 1, 0, 2, 0, 7, 0}, api.ErrShort},
		{"a size of 0", raw(func(b []byte) { b[5] = 0 }), api.ErrForm},
		{"a size of 7", raw(func(b []byte) { b[5] = 7 }), api.ErrForm},
		{"a size of 0 of 8 bytes", []byte{0, 1, 0, 2, 0, 0, 0, 0}, api.ErrForm},
		{"a size of 0, and no sum", []byte{0x13, 0x88, 0, 53, 0, 0, 0, 0, 9, 10, 11}, api.ErrForm},
		{"a size beyond the end", raw(func(b []byte) { b[5] = 12 }), api.ErrShort},
		{"a size far beyond the end", raw(func(b []byte) { b[4], b[5] = 255, 255 }), api.ErrShort},
		{"a size beyond the end, and no sum", []byte{0x13, 0x88, 0, 53, 0, 12, 0, 0, 9, 10, 11}, api.ErrShort},
		{"a size beyond 8 bytes", []byte{0, 1, 0, 2, 0, 9, 0, 0}, api.ErrShort},
		{"a byte behind", raw(func([]byte) {}, 0), api.ErrForm},
		{"a byte behind, and no sum", []byte{0x13, 0x88, 0, 53, 0, 11, 0, 0, 9, 10, 11, 0}, api.ErrForm},
		{"a byte behind, as it was", append(slices.Clone(plainBytes), 0), api.ErrForm},
		{"a size of 8, and data", raw(func(b []byte) { b[5] = 8 }), api.ErrForm},
		{"another port of who sends", append([]byte{0x13, 0x89}, plainBytes[2:]...), api.ErrSum},
		{"another byte of data", append(slices.Clone(plainBytes[:10]), 12), api.ErrSum},
		{"another sum", append([]byte{0x13, 0x88, 0, 53, 0, 11, 0x0C, 0x0E}, plainBytes[8:]...), api.ErrSum},
		{"a sum of 65535", append([]byte{0x13, 0x88, 0, 53, 0, 11, 255, 255}, plainBytes[8:]...), api.ErrSum},
		{"a sum of 1", append([]byte{0x13, 0x88, 0, 53, 0, 11, 0, 1}, plainBytes[8:]...), api.ErrSum},
		{"a sum of 256", append([]byte{0x13, 0x88, 0, 53, 0, 11, 1, 0}, plainBytes[8:]...), api.ErrSum},
	} {
		if u, e := udp.Parse(src, dst, c.b); !equal(u, api.UDP{}) || e != c.want {
			t.Errorf("%s: Parse = %v, %d; want %d", c.name, u, e, c.want)
		}
	}
}

// P7.2: a sum holds between its addresses alone, and of the protocol 17.
func TestParseOfOtherAddresses(t *testing.T) {
	for _, c := range [][2]int{{src + 1, dst}, {src, dst + 1}, {src, src}, {dst, dst}, {0, 0}, {src ^ 1<<31, dst}} {
		if u, e := udp.Parse(c[0], c[1], plainBytes); !equal(u, api.UDP{}) || e != api.ErrSum {
			t.Errorf("Parse between %x and %x = %v, %d", c[0], c[1], u, e)
		}
	}
	b := slices.Clone(plainBytes)
	b[7] += 17 - 6
	if u, e := udp.Parse(src, dst, b); !equal(u, api.UDP{}) || e != api.ErrSum {
		t.Errorf("Parse with the sum of the protocol 6 = %v, %d", u, e)
	}
}

// R3: what Parse answers shares nothing with b.
func TestParseSharesNothing(t *testing.T) {
	b := spare(plainBytes)
	u, _ := udp.Parse(src, dst, b)
	for i := range u.Data {
		u.Data[i] = 98
	}
	_ = append(u.Data, 5, 6, 7, 8)
	untouched(t, b, plainBytes)
	again, _ := udp.Parse(src, dst, b)
	clear(b)
	if !equal(again, plain()) {
		t.Errorf("the datagram became %v with its bytes", again)
	}
}

// P7.3: Parse of Build is the datagram, and its words add up to 65535.
func TestParseOfBuild(t *testing.T) {
	r := rand.New(rand.NewPCG(7, 3))
	for range 20000 {
		from, to := r.Uint32(), r.Uint32()
		want := api.UDP{Src: r.IntN(65536), Dst: r.IntN(65536), NoSum: r.IntN(3) == 0, Data: some(r, r.IntN(40))}
		b, e := udp.Build(int(from), int(to), want)
		if e != api.OK || len(b) != 8+len(want.Data) {
			t.Fatalf("Build(%v) = %x, %d", want, b, e)
		}
		if want.NoSum != (b[6] == 0 && b[7] == 0) || !want.NoSum && slow(from, to, b) != 65535 {
			t.Fatalf("Build(%v) = %x between %x and %x: not its sum", want, b, from, to)
		}
		if u, e := udp.Parse(int(from), int(to), b); e != api.OK || !equal(u, want) || !udp.Same(u, want) {
			t.Fatalf("Parse of Build of %v = %v, %d", want, u, e)
		}
	}
}

// expected is Parse's error, told in another way, by P7.2's words.
func expected(b []byte) api.Errno {
	if len(b) < 8 {
		return api.ErrShort
	}
	size := int(binary.BigEndian.Uint16(b[4:]))
	switch {
	case size < 8:
		return api.ErrForm
	case size > len(b):
		return api.ErrShort
	case size < len(b):
		return api.ErrForm
	case (b[6] != 0 || b[7] != 0) && slow(src, dst, b) != 65535:
		return api.ErrSum
	}
	return api.OK
}

// P7.2: bytes that are near to datagrams.
func TestParseNearDatagrams(t *testing.T) {
	r := rand.New(rand.NewPCG(7, 2))
	met := map[api.Errno]int{}
	for range 100000 {
		b, _ := udp.Build(src, dst, api.UDP{Src: r.IntN(65536), Dst: r.IntN(65536), NoSum: r.IntN(3) == 0, Data: some(r, r.IntN(20))})
		for range r.IntN(3) {
			b[r.IntN(8)] ^= 1 << r.IntN(8)
		}
		if r.IntN(2) == 0 {
			mend(b)
		}
		b = append(b, some(r, r.IntN(3)*r.IntN(2))...)
		b = b[:len(b)-r.IntN(3)*r.IntN(len(b))/2]
		u, e := udp.Parse(src, dst, b)
		met[e]++
		if want := expected(b); e != want || e != api.OK && !equal(u, api.UDP{}) {
			t.Fatalf("Parse(%x) = %v, %d; want %d", b, u, e, want)
		}
		if e == api.OK && (u.Src != int(b[0])*256+int(b[1]) || u.Dst != int(b[2])*256+int(b[3]) || u.NoSum != (b[6] == 0 && b[7] == 0) || !bytes.Equal(u.Data, b[8:])) {
			t.Fatalf("Parse(%x) = %v", b, u)
		}
	}
	for _, e := range []api.Errno{api.OK, api.ErrShort, api.ErrForm, api.ErrSum} {
		if met[e] < 1000 {
			t.Errorf("the test has met the error %d %d times", e, met[e])
		}
	}
}
