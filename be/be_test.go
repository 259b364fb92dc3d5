package be_test

import (
	"bytes"
	"math"
	"slices"
	"testing"

	"goosepond/api"
	"goosepond/be"
)

// greatest is what each size holds, by its place.
var greatest = []int{0, 255, 65535, 1<<24 - 1, 1<<32 - 1}

// noSizes are numbers that are no size.
var noSizes = []int{math.MinInt, -8, -1, 0, 5, 8, 64, math.MaxInt}

// spare is b with room behind that holds 0xEE.
func spare(b ...byte) []byte {
	s := append(slices.Clone(b), bytes.Repeat([]byte{0xEE}, 8)...)
	return s[:len(b)]
}

// untouched fails if b, made by spare, is not want any more, or its room not as it was.
func untouched(t *testing.T, b []byte, want ...byte) {
	t.Helper()
	if !bytes.Equal(b, want) {
		t.Errorf("what was handed in is %v now, was %v", b, want)
	}
	if room := b[len(b) : len(b)+8]; !bytes.Equal(room, bytes.Repeat([]byte{0xEE}, 8)) {
		t.Errorf("its spare room is %v now", room)
	}
}

// P1.1: Fits.
func TestFits(t *testing.T) {
	for size := 1; size <= 4; size++ {
		most := greatest[size]
		for _, n := range []int{0, 1, most - 1, most} {
			if !be.Fits(n, size) {
				t.Errorf("Fits(%d, %d) is false", n, size)
			}
		}
		for _, n := range []int{math.MinInt, -most - 1, -1, most + 1, 2*most + 2, math.MaxInt} {
			if be.Fits(n, size) {
				t.Errorf("Fits(%d, %d) is true", n, size)
			}
		}
	}
	for _, size := range noSizes {
		for _, n := range []int{math.MinInt, -1, 0, 1, 255, math.MaxInt} {
			if be.Fits(n, size) {
				t.Errorf("Fits(%d, %d) is true: %d is no size", n, size, size)
			}
		}
	}
}

// P1.1: Get, of ordinary bytes and at their ends.
func TestGet(t *testing.T) {
	b := []byte{1, 2, 3, 255, 254, 253, 252}
	for _, c := range []struct{ at, size, want int }{
		{0, 1, 1}, {3, 1, 255}, {6, 1, 252},
		{0, 2, 0x0102}, {1, 2, 515}, {5, 2, 0xFDFC},
		{0, 3, 0x010203}, {4, 3, 0xFEFDFC},
		{0, 4, 0x010203FF}, {3, 4, 0xFFFEFDFC},
	} {
		if n, e := be.Get(b, c.at, c.size); n != c.want || e != api.OK {
			t.Errorf("Get(b, %d, %d) = %#x, %d; want %#x", c.at, c.size, n, e, c.want)
		}
	}
	if n, e := be.Get([]byte{255, 255, 255, 255}, 0, 4); n != 1<<32-1 || e != api.OK {
		t.Errorf("the greatest number is %d, %d", n, e)
	}
	if n, e := be.Get([]byte{0, 0, 0, 0}, 0, 4); n != 0 || e != api.OK {
		t.Errorf("the least number is %d, %d", n, e)
	}
}

// P1.1: Get of what may not be, ErrArg ahead of ErrShort.
func TestGetErrors(t *testing.T) {
	b := spare(9, 9, 9)
	for _, c := range []struct {
		at, size int
		want     api.Errno
	}{
		{0, 0, api.ErrArg}, {0, 5, api.ErrArg}, {0, -1, api.ErrArg}, {9, 0, api.ErrArg}, {9, 5, api.ErrArg},
		{-1, 1, api.ErrArg}, {-1, 4, api.ErrArg}, {math.MinInt, 1, api.ErrArg}, {-1, 9, api.ErrArg},
		{0, math.MaxInt, api.ErrArg}, {0, math.MinInt, api.ErrArg},
		{0, 4, api.ErrShort}, {1, 3, api.ErrShort}, {2, 2, api.ErrShort}, {3, 1, api.ErrShort}, {4, 1, api.ErrShort},
		{math.MaxInt, 1, api.ErrShort}, {math.MaxInt, 4, api.ErrShort}, {math.MaxInt - 2, 4, api.ErrShort},
	} {
		if n, e := be.Get(b, c.at, c.size); n != 0 || e != c.want {
			t.Errorf("Get(b, %d, %d) = %d, %d; want 0, %d", c.at, c.size, n, e, c.want)
		}
	}
	if n, e := be.Get(nil, 0, 1); n != 0 || e != api.ErrShort {
		t.Errorf("Get of nil = %d, %d", n, e)
	}
	untouched(t, b, 9, 9, 9)
}

// P1.1: Put, of numbers that fit.
func TestPut(t *testing.T) {
	for _, c := range []struct {
		b       []byte
		n, size int
		want    []byte
	}{
		{nil, 258, 2, []byte{1, 2}},
		{nil, 0, 1, []byte{0}},
		{nil, 7, 4, []byte{0, 0, 0, 7}},
		{[]byte{}, 255, 1, []byte{255}},
		{[]byte{5}, 0x010203, 3, []byte{5, 1, 2, 3}},
		{[]byte{5, 6}, 0xFFFEFDFC, 4, []byte{5, 6, 255, 254, 253, 252}},
	} {
		if got := be.Put(c.b, c.n, c.size); !bytes.Equal(got, c.want) {
			t.Errorf("Put(%v, %d, %d) = %v; want %v", c.b, c.n, c.size, got, c.want)
		}
	}
}

// P1.1: Put of a number that does not fit is b alone.
func TestPutUnlessFits(t *testing.T) {
	for size := 1; size <= 4; size++ {
		for _, n := range []int{math.MinInt, -1, greatest[size] + 1, math.MaxInt} {
			if got := be.Put([]byte{3, 4}, n, size); !bytes.Equal(got, []byte{3, 4}) {
				t.Errorf("Put(3 4, %d, %d) = %v", n, size, got)
			}
		}
	}
	for _, size := range noSizes {
		if got := be.Put([]byte{3, 4}, 0, size); !bytes.Equal(got, []byte{3, 4}) {
			t.Errorf("Put(3 4, 0, %d) = %v", size, got)
		}
	}
	if got := be.Put(nil, 256, 1); len(got) != 0 {
		t.Errorf("Put(nil, 256, 1) = %v", got)
	}
}

// R3: what Put answers is new memory, whether the number fits or not, and no spare room is taken.
func TestPutSharesNothing(t *testing.T) {
	for _, n := range []int{0x0506, -1} {
		b := spare(1, 2)
		got := be.Put(b, n, 2)
		for i := range got {
			got[i] = 99
		}
		_ = append(got, 98, 97)
		untouched(t, b, 1, 2)
	}
}

// P1.1: Set, at the beginning, within and at the end.
func TestSet(t *testing.T) {
	for _, c := range []struct {
		at, n, size int
		want        []byte
	}{
		{0, 7, 1, []byte{7, 2, 3, 4, 5}},
		{4, 255, 1, []byte{1, 2, 3, 4, 255}},
		{1, 258, 2, []byte{1, 1, 2, 4, 5}},
		{3, 0, 2, []byte{1, 2, 3, 0, 0}},
		{2, 0xFFFEFD, 3, []byte{1, 2, 255, 254, 253}},
		{0, 1<<32 - 1, 4, []byte{255, 255, 255, 255, 5}},
		{1, 9, 4, []byte{1, 0, 0, 0, 9}},
	} {
		if got, e := be.Set([]byte{1, 2, 3, 4, 5}, c.at, c.n, c.size); e != api.OK || !bytes.Equal(got, c.want) {
			t.Errorf("Set(b, %d, %d, %d) = %v, %d; want %v", c.at, c.n, c.size, got, e, c.want)
		}
	}
}

// P1.1: Set of what may not be, ErrArg ahead of ErrShort, and nothing beside an error (R2).
func TestSetErrors(t *testing.T) {
	b := spare(9, 9, 9)
	for _, c := range []struct {
		at, n, size int
		want        api.Errno
	}{
		{0, 0, 0, api.ErrArg}, {0, 0, 5, api.ErrArg}, {0, 256, 1, api.ErrArg}, {0, -1, 1, api.ErrArg},
		{0, 1 << 32, 4, api.ErrArg}, {9, 256, 1, api.ErrArg}, {9, 0, 5, api.ErrArg},
		{-1, 0, 1, api.ErrArg}, {math.MinInt, 0, 4, api.ErrArg}, {-1, 0, 4, api.ErrArg},
		{0, 0, 4, api.ErrShort}, {1, 0, 3, api.ErrShort}, {2, 65535, 2, api.ErrShort}, {3, 0, 1, api.ErrShort},
		{math.MaxInt, 0, 1, api.ErrShort}, {math.MaxInt - 2, 0, 4, api.ErrShort},
	} {
		if got, e := be.Set(b, c.at, c.n, c.size); len(got) != 0 || e != c.want {
			t.Errorf("Set(b, %d, %d, %d) = %v, %d; want nothing, %d", c.at, c.n, c.size, got, e, c.want)
		}
	}
	if got, e := be.Set(nil, 0, 0, 1); len(got) != 0 || e != api.ErrShort {
		t.Errorf("Set of nil = %v, %d", got, e)
	}
	untouched(t, b, 9, 9, 9)
}

// R3: what Set answers is new memory.
func TestSetSharesNothing(t *testing.T) {
	b := spare(1, 2, 3)
	got, e := be.Set(b, 1, 7, 1)
	if e != api.OK {
		t.Fatal(e)
	}
	for i := range got {
		got[i] = 99
	}
	_ = append(got, 98)
	untouched(t, b, 1, 2, 3)
}

// word is what Words tells at once.
type word struct{ at, n int }

func words(b []byte) []word {
	var l []word
	for at, n := range be.Words(b) {
		l = append(l, word{at, n})
	}
	return l
}

// P1.2: pairs in order, a last byte alone with a 0 behind it.
func TestWords(t *testing.T) {
	for _, c := range []struct {
		b    []byte
		want []word
	}{
		{nil, nil},
		{[]byte{}, nil},
		{[]byte{5}, []word{{0, 0x0500}}},
		{[]byte{0, 0}, []word{{0, 0}}},
		{[]byte{1, 2}, []word{{0, 0x0102}}},
		{[]byte{1, 2, 3}, []word{{0, 0x0102}, {2, 0x0300}}},
		{[]byte{255, 255, 0, 1, 254, 253}, []word{{0, 65535}, {2, 1}, {4, 0xFEFD}}},
	} {
		if got := words(c.b); !slices.Equal(got, c.want) {
			t.Errorf("Words(%v) tells %v; want %v", c.b, got, c.want)
		}
	}
}

// P1.2: a last byte alone has a 0 behind it, not what stands in the spare room (R3).
func TestWordsSpareRoom(t *testing.T) {
	b := spare(1, 2, 3)
	if got := words(b); !slices.Equal(got, []word{{0, 0x0102}, {2, 0x0300}}) {
		t.Errorf("Words tells %v", got)
	}
	untouched(t, b, 1, 2, 3)
}

// R7: asked twice it tells the same; who ends it early is told no more.
func TestWordsAgain(t *testing.T) {
	seq := be.Words([]byte{1, 2, 3, 4, 5})
	for range 2 {
		var early, l []word
		for at, n := range seq {
			early = append(early, word{at, n})
			if at == 2 {
				break
			}
		}
		for at, n := range seq {
			l = append(l, word{at, n})
		}
		if !slices.Equal(early, []word{{0, 0x0102}, {2, 0x0304}}) {
			t.Errorf("ended early, it told %v", early)
		}
		if !slices.Equal(l, []word{{0, 0x0102}, {2, 0x0304}, {4, 0x0500}}) {
			t.Errorf("it told %v", l)
		}
	}
}

// R3: bytes that are handed in are not kept: who changes them later changes no words.
func TestWordsKeepsNothing(t *testing.T) {
	b := []byte{1, 2, 3}
	seq := be.Words(b)
	b[0], b[2] = 99, 98
	var l []word
	for at, n := range seq {
		l = append(l, word{at, n})
	}
	if !slices.Equal(l, []word{{0, 0x0102}, {2, 0x0300}}) {
		t.Errorf("Words tells %v of what came later", l)
	}
}

// P1.3: Get of what Put put behind is the number.
func TestGetOfPut(t *testing.T) {
	for size := 1; size <= 4; size++ {
		most := greatest[size]
		for _, n := range []int{0, 1, 127, 128, 255, most / 255, most / 3, most / 2, most - 1, most} {
			for room := range 4 {
				b := bytes.Repeat([]byte{0xA5}, room)
				put := be.Put(b, n, size)
				if len(put) != room+size || !bytes.Equal(put[:room], b) {
					t.Fatalf("Put(%v, %d, %d) = %v", b, n, size, put)
				}
				if got, e := be.Get(put, room, size); got != n || e != api.OK {
					t.Errorf("Get of Put(%v, %d, %d) = %d, %d", b, n, size, got, e)
				}
			}
		}
	}
}
