package event_test

import (
	"bytes"
	"encoding/binary"
	"math"
	"math/rand/v2"
	"reflect"
	"slices"
	"testing"

	"goosepond/api"
	"goosepond/event"
)

// spare is b with room behind that holds 0xEE.
func spare(b ...byte) []byte {
	s := append(slices.Clone(b), bytes.Repeat([]byte{0xEE}, 8)...)
	return s[:len(b)]
}

// spoil writes over a list, and the room behind it.
func spoil(b []byte) {
	b = b[:cap(b)]
	for i := range b {
		b[i] ^= 0x55
	}
}

// untouched fails if b, made by spare, is not want any more, or its room not as it was.
func untouched(t *testing.T, b []byte, want ...byte) {
	t.Helper()
	if !bytes.Equal(b, want) || !bytes.Equal(b[len(b):len(b)+8], bytes.Repeat([]byte{0xEE}, 8)) {
		t.Errorf("what was handed in is %v now, with %v behind; it was %v", b, b[len(b):len(b)+8], want)
	}
}

// alike is Same in another way.
func alike(a, b api.Event) bool {
	return a.Kind == b.Kind && a.B4 == b.B4 && a.N == b.N && string(a.Bytes) == string(b.Bytes)
}

// long is so many bytes that differ.
func long(n int) []byte {
	b := make([]byte, n)
	for i := range b {
		b[i] = byte(i*7 + i>>8)
	}
	return b
}

// known are events and their bytes.
var known = []struct {
	e api.Event
	b []byte
}{
	{api.Event{Kind: api.EvTick, N: 3}, []byte{8, 0, 0, 0, 0, 3, 0, 0}},
	{api.Event{Kind: api.EvHost}, []byte{1, 0, 0, 0, 0, 0, 0, 0}},
	{api.Event{Kind: api.EvHost, B4: 255, Bytes: []byte{7}}, []byte{1, 255, 0, 0, 0, 0, 0, 1, 7}},
	{api.Event{Kind: api.EvNet, Bytes: []byte{1, 2, 3}}, []byte{2, 0, 0, 0, 0, 0, 0, 3, 1, 2, 3}},
	{api.Event{Kind: api.EvUp, B4: 1, Bytes: []byte{0}}, []byte{3, 1, 0, 0, 0, 0, 0, 1, 0}},
	{api.Event{Kind: api.EvDown, B4: 64, N: 0x01020304, Bytes: []byte{5, 6}}, []byte{4, 64, 1, 2, 3, 4, 0, 2, 5, 6}},
	{api.Event{Kind: api.EvDeliver, N: 63}, []byte{5, 0, 0, 0, 0, 63, 0, 0}},
	{api.Event{Kind: api.EvDouble, N: 1<<31 - 1}, []byte{6, 0, 127, 255, 255, 255, 0, 0}},
	{api.Event{Kind: api.EvDrop, N: 1 << 31}, []byte{7, 0, 128, 0, 0, 0, 0, 0}},
	{api.Event{Kind: api.EvCommand, Bytes: []byte("show")}, []byte{9, 0, 0, 0, 0, 0, 0, 4, 's', 'h', 'o', 'w'}},
	{api.Event{Kind: api.EvHost, Bytes: long(256)}, append([]byte{1, 0, 0, 0, 0, 0, 1, 0}, long(256)...)},
	{api.Event{Kind: api.EvCommand, B4: 255, N: 1 << 31, Bytes: long(65535)}, append([]byte{9, 255, 128, 0, 0, 0, 255, 255}, long(65535)...)},
}

// wrong are events that may not be.
var wrong = []api.Event{
	{},
	{Kind: 0, B4: 1, N: 1, Bytes: []byte{1}},
	{Kind: -1}, {Kind: 10}, {Kind: 256}, {Kind: 257}, {Kind: math.MinInt}, {Kind: math.MaxInt}, {Kind: 1<<32 + 1},
	{Kind: 1, B4: -1}, {Kind: 1, B4: 256}, {Kind: 1, B4: 257}, {Kind: 1, B4: math.MinInt}, {Kind: 1, B4: math.MaxInt},
	{Kind: 8, N: -1}, {Kind: 8, N: 1<<31 + 1}, {Kind: 8, N: 1 << 32}, {Kind: 8, N: 1<<32 - 1}, {Kind: 8, N: math.MinInt}, {Kind: 8, N: math.MaxInt},
	{Kind: 1, Bytes: make([]byte, 65536)}, {Kind: 9, Bytes: make([]byte, 65537)}, {Kind: 2, Bytes: make([]byte, 1<<17)},
	{Kind: 8, B4: -1, N: 3}, {Kind: 8, B4: 256, N: -1},
}

// P36.1: Check, at the bounds of each field.
func TestCheck(t *testing.T) {
	for _, k := range known {
		if !event.Check(k.e) {
			t.Errorf("Check(%d %d %d, %d bytes) is false", k.e.Kind, k.e.B4, k.e.N, len(k.e.Bytes))
		}
	}
	for _, e := range wrong {
		if event.Check(e) {
			t.Errorf("Check(%d %d %d, %d bytes) is true", e.Kind, e.B4, e.N, len(e.Bytes))
		}
	}
	for kind := -300; kind <= 300; kind++ {
		if got := event.Check(api.Event{Kind: kind}); got != (1 <= kind && kind <= 9) {
			t.Errorf("Check of the kind %d is %t", kind, got)
		}
		if got := event.Check(api.Event{Kind: 5, B4: kind}); got != (0 <= kind && kind <= 255) {
			t.Errorf("Check of the B4 %d is %t", kind, got)
		}
	}
}

// P36.1: Code of events that may be; nil bytes are as good as none.
func TestCode(t *testing.T) {
	for _, k := range known {
		if got := event.Code(k.e); !bytes.Equal(got, k.b) {
			t.Errorf("Code(%d %d %d, %d bytes) = %v; want %v", k.e.Kind, k.e.B4, k.e.N, len(k.e.Bytes), short(got), short(k.b))
		}
	}
	for _, b := range [][]byte{nil, {}} {
		if got := event.Code(api.Event{Kind: 8, N: 3, Bytes: b}); !bytes.Equal(got, []byte{8, 0, 0, 0, 0, 3, 0, 0}) {
			t.Errorf("Code of a tick = %v", got)
		}
	}
}

// P36.1: Code of one that may not be is nothing.
func TestCodeNone(t *testing.T) {
	for _, e := range wrong {
		if got := event.Code(e); len(got) != 0 {
			t.Errorf("Code(%d %d %d, %d bytes) = %v", e.Kind, e.B4, e.N, len(e.Bytes), short(got))
		}
	}
}

// short is the beginning of bytes.
func short(b []byte) []byte {
	return b[:min(len(b), 16)]
}

// P36.1: One, with nothing and with much behind.
func TestOne(t *testing.T) {
	for _, k := range known {
		for _, behind := range [][]byte{nil, {0}, {1}, {255, 255, 255, 255}, k.b, make([]byte, 70000)} {
			got, n, ok := event.One(slices.Concat(k.b, behind))
			if !ok || n != len(k.b) || !alike(got, k.e) {
				t.Errorf("One(%v, and %d behind) = %d %d %d, %d bytes, %d, %t", short(k.b), len(behind), got.Kind, got.B4, got.N, len(got.Bytes), n, ok)
			}
		}
	}
}

// noOnes are bytes that begin with no event.
var noOnes = [][]byte{
	nil, {}, {8}, {8, 0, 0, 0, 0, 3, 0}, // the head is not all there
	{1, 0, 0, 0, 0, 0, 0, 1}, {1, 0, 0, 0, 0, 0, 0, 2, 9}, {1, 0, 0, 0, 0, 0, 1, 0, 9, 9, 9}, // the Bytes are not
	{0, 0, 0, 0, 0, 0, 0, 0}, {10, 0, 0, 0, 0, 0, 0, 0}, {255, 0, 0, 0, 0, 0, 0, 0}, {0, 1, 0, 0, 0, 3, 0, 1, 9}, // there is no such kind
	{8, 0, 128, 0, 0, 1, 0, 0}, {8, 0, 128, 1, 0, 0, 0, 0}, {8, 0, 255, 255, 255, 255, 0, 0}, {1, 0, 129, 0, 0, 0, 0, 1, 9}, // N is above 2^31
}

// P36.1: One, if there is none that may be: zero, 0, false.
func TestOneNone(t *testing.T) {
	for _, b := range noOnes {
		if e, n, ok := event.One(b); ok || n != 0 || !reflect.DeepEqual(e, api.Event{}) {
			t.Errorf("One(%v) = %v, %d, %t", b, e, n, ok)
		}
	}
	for _, k := range known {
		for size := range min(len(k.b), 400) {
			if e, n, ok := event.One(k.b[:size]); ok || n != 0 || !reflect.DeepEqual(e, api.Event{}) {
				t.Errorf("One(%v), %d bytes of it, = %v, %d, %t", short(k.b), size, e, n, ok)
			}
		}
		size := len(k.b) - 1
		if e, n, ok := event.One(k.b[:size]); ok || n != 0 || !reflect.DeepEqual(e, api.Event{}) {
			t.Errorf("One(%v), all but its last byte, = %d bytes, %d, %t", short(k.b), len(e.Bytes), n, ok)
		}
	}
}

// R3: the bytes that count are those of b, not what stands in its spare room.
func TestOneSpareRoom(t *testing.T) {
	b := []byte{1, 0, 0, 0, 0, 0, 0, 2, 5, 6}
	for size := range len(b) {
		if e, n, ok := event.One(b[:size]); ok || n != 0 || !reflect.DeepEqual(e, api.Event{}) {
			t.Errorf("One of %d of its bytes = %v, %d, %t", size, e, n, ok)
		}
		if l := event.Parse(b[:size]); len(l) != 0 {
			t.Errorf("Parse of %d of its bytes = %v", size, l)
		}
	}
}

// P36.1: Put is Code of each, of those that may not be nothing.
func TestPut(t *testing.T) {
	var l []api.Event
	var want []byte
	if got := event.Put(nil); len(got) != 0 {
		t.Errorf("Put(nil) = %v", got)
	}
	if got := event.Put([]api.Event{}); len(got) != 0 {
		t.Errorf("Put of no events = %v", got)
	}
	if got := event.Put(wrong); len(got) != 0 {
		t.Errorf("Put of what may not be = %v", short(got))
	}
	for i, k := range known {
		l = append(l, k.e, wrong[i])
		want = append(want, k.b...)
		if got := event.Put(l); !bytes.Equal(got, want) {
			t.Errorf("Put of %d events has %d bytes; want %d", len(l), len(got), len(want))
		}
	}
}

// P36.1: Parse goes up to where there is none, and no further.
func TestParse(t *testing.T) {
	var b []byte
	var want []api.Event
	for _, k := range known {
		b, want = append(b, k.b...), append(want, k.e)
		for _, end := range noOnes {
			got := event.Parse(slices.Concat(b, end))
			if !slices.EqualFunc(got, want, alike) {
				t.Errorf("Parse of %d events, and %v behind, tells %d", len(want), end, len(got))
			}
		}
	}
	for _, end := range noOnes {
		if got := event.Parse(end); len(got) != 0 {
			t.Errorf("Parse(%v) = %v", end, got)
		}
	}
	for _, end := range noOnes[8:] { // where they are whole heads, but of what may not be
		if got := event.Parse(slices.Concat(known[0].b, end, known[1].b)); !slices.EqualFunc(got, []api.Event{known[0].e}, alike) {
			t.Errorf("Parse, with %v within, = %v", end, got)
		}
	}
}

// P36.1: Same, field by field; no bytes are the same as nil ones.
func TestSame(t *testing.T) {
	for i, a := range known {
		for j, b := range known {
			if got := event.Same(a.e, b.e); got != (i == j) {
				t.Errorf("Same of %d and %d is %t", i, j, got)
			}
		}
	}
	for _, e := range append(slices.Clone(wrong), known[3].e) {
		b := e
		b.Bytes = slices.Clone(e.Bytes)
		if !event.Same(e, b) {
			t.Errorf("Same of %v and itself is false", e.Kind)
		}
		for _, other := range []api.Event{
			{Kind: e.Kind ^ 1, B4: e.B4, N: e.N, Bytes: e.Bytes},
			{Kind: e.Kind, B4: e.B4 ^ 1, N: e.N, Bytes: e.Bytes},
			{Kind: e.Kind, B4: e.B4, N: e.N ^ 1, Bytes: e.Bytes},
			{Kind: e.Kind, B4: e.B4, N: e.N, Bytes: append(slices.Clone(e.Bytes), 0)},
			{Kind: e.Kind ^ math.MinInt, B4: e.B4, N: e.N, Bytes: e.Bytes},
			{Kind: e.Kind, B4: e.B4 ^ 256, N: e.N, Bytes: e.Bytes},
			{Kind: e.Kind, B4: e.B4, N: e.N ^ 1<<32, Bytes: e.Bytes},
		} {
			if event.Same(e, other) || event.Same(other, e) {
				t.Errorf("Same of %d %d %d and %d %d %d is true", e.Kind, e.B4, e.N, other.Kind, other.B4, other.N)
			}
		}
	}
	if !event.Same(api.Event{Kind: 1}, api.Event{Kind: 1, Bytes: []byte{}}) {
		t.Error("Same of nil and no bytes is false")
	}
	if event.Same(api.Event{Bytes: []byte{1, 2}}, api.Event{Bytes: []byte{1, 3}}) {
		t.Error("Same of other bytes is true")
	}
}

// R3: nothing that is handed in is changed, and nothing that is answered is shared.
func TestSharesNothing(t *testing.T) {
	b := spare(5, 6)
	spoil(event.Code(api.Event{Kind: 1, Bytes: b}))
	untouched(t, b, 5, 6)
	spoil(event.Put([]api.Event{{Kind: 1, Bytes: b}, {Kind: 2, Bytes: b}}))
	untouched(t, b, 5, 6)

	want := []byte{1, 0, 0, 0, 0, 0, 0, 2, 5, 6, 8, 0, 0, 0, 0, 3, 0, 1, 7}
	b = spare(want...)
	e, _, _ := event.One(b)
	spoil(e.Bytes)
	untouched(t, b, want...)
	l := event.Parse(b)
	if len(l) != 2 {
		t.Fatalf("Parse(%v) = %v", b, l)
	}
	spoil(l[0].Bytes)
	untouched(t, b, want...)
	if !bytes.Equal(l[1].Bytes, []byte{7}) {
		t.Errorf("what is told first is shared with what is told next, which has %v", l[1].Bytes)
	}
	spoil(l[1].Bytes)
	untouched(t, b, want...)
}

// someEvent is one, with numbers that are near to their bounds often.
func someEvent(r *rand.Rand) api.Event {
	e := api.Event{Kind: 1 + r.IntN(9), B4: r.IntN(256), N: int(r.Uint32()) >> (1 + r.IntN(31)), Bytes: long(r.IntN(40))}
	switch r.IntN(12) {
	case 0:
		e.Kind = r.IntN(13) - 1
	case 1:
		e.B4 = r.IntN(300) - 10
	case 2:
		e.N = 1<<31 - 3 + r.IntN(6)
	case 3:
		e.N = r.IntN(6) - 3
	case 4:
		e.Bytes = long(65530 + r.IntN(12))
	}
	return e
}

// mayBe is Check in another way.
func mayBe(e api.Event) bool {
	return slices.Contains([]int{1, 2, 3, 4, 5, 6, 7, 8, 9}, e.Kind) && e.B4 == int(uint8(e.B4)) && e.N == int(uint32(e.N)) && uint32(e.N) <= 1<<31 && len(e.Bytes) < 65536
}

// coded is Code in another way.
func coded(e api.Event) []byte {
	if !mayBe(e) {
		return nil
	}
	b := []byte{byte(e.Kind), byte(e.B4)}
	b = binary.BigEndian.AppendUint32(b, uint32(e.N))
	b = binary.BigEndian.AppendUint16(b, uint16(len(e.Bytes)))
	return append(b, e.Bytes...)
}

// P36.2: Parse of Put is the events that may be.
func TestParseOfPut(t *testing.T) {
	r := rand.New(rand.NewPCG(36, 2))
	for range 3000 {
		var l, want []api.Event
		var b []byte
		for range r.IntN(12) {
			e := someEvent(r)
			l, b = append(l, e), append(b, coded(e)...)
			if mayBe(e) {
				want = append(want, e)
			}
			if event.Check(e) != mayBe(e) {
				t.Fatalf("Check(%d %d %d, %d bytes) = %t", e.Kind, e.B4, e.N, len(e.Bytes), event.Check(e))
			}
		}
		put := event.Put(l)
		if !bytes.Equal(put, b) {
			t.Fatalf("Put of %d events has %d bytes; want %d", len(l), len(put), len(b))
		}
		if got := event.Parse(put); !slices.EqualFunc(got, want, event.Same) || !slices.EqualFunc(got, want, alike) {
			t.Fatalf("Parse of Put of %d events, of which %d may be, tells %d", len(l), len(want), len(got))
		}
	}
}

// one is One in another way.
func one(b []byte) (api.Event, int, bool) {
	var head struct {
		Kind, B4 uint8
		N        uint32
		Many     uint16
	}
	from := bytes.NewReader(b)
	if binary.Read(from, binary.BigEndian, &head) != nil || int(head.Many) > from.Len() {
		return api.Event{}, 0, false
	}
	e := api.Event{Kind: int(head.Kind), B4: int(head.B4), N: int(head.N), Bytes: b[8 : 8+int(head.Many)]}
	if !mayBe(e) {
		return api.Event{}, 0, false
	}
	return e, 8 + int(head.Many), true
}

// P36.1: One and Parse of whatever bytes; Put of what they tell is the bytes that they read.
func TestRandomBytes(t *testing.T) {
	r := rand.New(rand.NewPCG(36, 1))
	found := 0
	for range 30000 {
		var b []byte
		for range r.IntN(6) {
			e := someEvent(r)
			e.Bytes = e.Bytes[:min(len(e.Bytes), 20)]
			b = append(b, coded(e)...)
		}
		for range r.IntN(3) {
			if len(b) > 0 {
				b[r.IntN(len(b))] = byte(r.Uint32()) >> r.IntN(8)
			}
		}
		b = b[:len(b)-r.IntN(min(len(b), 5)+1)]
		var want []api.Event
		at := 0
		for {
			e, n, ok := one(b[at:])
			got, gotN, gotOK := event.One(b[at:])
			if !alike(got, e) || gotN != n || gotOK != ok {
				t.Fatalf("One(%v) = %v, %d, %t; want %v, %d, %t", b[at:], got, gotN, gotOK, e, n, ok)
			}
			if !ok {
				break
			}
			want, at = append(want, e), at+n
		}
		got := event.Parse(b)
		if !slices.EqualFunc(got, want, alike) {
			t.Fatalf("Parse(%v) = %v; want %v", b, got, want)
		}
		if put := event.Put(got); !bytes.Equal(put, b[:at]) {
			t.Fatalf("Put of Parse(%v) = %v", b, put)
		}
		found += len(got)
	}
	if found < 20000 {
		t.Errorf("the test has met %d events", found)
	}
}
