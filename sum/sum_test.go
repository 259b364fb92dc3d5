package sum_test

import (
	"bytes"
	"math"
	"math/rand/v2"
	"slices"
	"testing"

	"goosepond/be"
	"goosepond/sum"
)

// P2.1: Fold.
func TestFold(t *testing.T) {
	for _, c := range []struct{ n, want int }{
		{math.MinInt, 0}, {-65536, 0}, {-1, 0},
		{0, 0}, {1, 1}, {65534, 65534}, {65535, 65535},
		{65536, 1}, {65537, 2}, {0x1FFFE, 65535}, {0x1FFFF, 1}, {0x20000, 2},
		{0xFFFF0000, 65535}, {0xFFFFFFFF, 65535}, {0x100000000, 1},
		{0x2DDF0, 0xDDF2}, {0x123456789ABC, 0x1234 + 0x5678 + 0x9ABC - 65535},
		{math.MaxInt, 0x7FFF}, {math.MaxInt - 0x7FFF, 65535},
	} {
		if got := sum.Fold(c.n); got != c.want {
			t.Errorf("Fold(%#x) = %#x; want %#x", c.n, got, c.want)
		}
	}
}

// P2.1: Add, of no part, of bytes alone, and where it must be folded.
func TestAdd(t *testing.T) {
	for _, c := range []struct {
		parts [][]byte
		want  int
	}{
		{nil, 0},
		{[][]byte{nil, {}}, 0},
		{[][]byte{{0, 0, 0, 0}}, 0},
		{[][]byte{{5}}, 0x0500},
		{[][]byte{{1, 2, 3}}, 0x0402},
		{[][]byte{{255, 255}}, 65535},
		{[][]byte{{255, 255, 255, 255}}, 65535},
		{[][]byte{{255, 255, 0, 1}}, 1},
		{[][]byte{{0, 1, 0xF2, 3, 0xF4, 0xF5, 0xF6, 0xF7}}, 0xDDF2},
		{[][]byte{{0, 1, 0xF2, 3}, {0xF4, 0xF5}, nil, {0xF6, 0xF7}}, 0xDDF2},
	} {
		if got := sum.Add(c.parts...); got != c.want {
			t.Errorf("Add(%v) = %#x; want %#x", c.parts, got, c.want)
		}
	}
}

// P2.1: each part by itself: a last byte alone has a 0 behind it, not the next part's first one.
func TestAddPartsByThemselves(t *testing.T) {
	if got := sum.Add([]byte{1}, []byte{2}); got != 0x0300 {
		t.Errorf("Add(1; 2) = %#x", got)
	}
	if got := sum.Add([]byte{1, 2, 3}, []byte{4, 5}); got != 0x0102+0x0300+0x0405 {
		t.Errorf("Add(1 2 3; 4 5) = %#x", got)
	}
}

// P2.1: many words are added ahead of folding, none is lost.
func TestAddMany(t *testing.T) {
	b := bytes.Repeat([]byte{0xFF, 0xFE}, 1<<17)
	if got, want := sum.Add(b), (1<<17*0xFFFE-1)%65535+1; got != want {
		t.Errorf("Add = %#x; want %#x", got, want)
	}
}

// P2.1: Of and Right.
func TestOfAndRight(t *testing.T) {
	for _, c := range []struct {
		parts [][]byte
		of    int
		right bool
	}{
		{nil, 65535, false},
		{[][]byte{{0, 0}}, 65535, false},
		{[][]byte{{0xFF, 0xFF}}, 0, true},
		{[][]byte{{0xFF, 0xFE}}, 1, false},
		{[][]byte{{0xFF, 0xFE}, {0, 1}}, 0, true},
		{[][]byte{{0xFF, 0xFF, 0xFF, 0xFF}}, 0, true},
		{[][]byte{{0xFF}}, 0x00FF, false},
		{[][]byte{{0xFF}, {0, 0xFF}}, 0, true},
		{[][]byte{{0xFF}, {0xFF}}, 0x01FE, false},
		{[][]byte{{0, 1, 0xF2, 3, 0xF4, 0xF5, 0xF6, 0xF7}}, 0x220D, false},
		{[][]byte{{0, 1, 0xF2, 3, 0xF4, 0xF5, 0xF6, 0xF7, 0x22, 0x0D}}, 0, true},
		{[][]byte{{0x45, 0, 0, 0x73, 0, 0, 0x40, 0, 0x40, 0x11}, {0xC0, 0xA8, 0, 1, 0xC0, 0xA8, 0, 0xC7}}, 0xB861, false},
	} {
		if of := sum.Of(c.parts...); of != c.of {
			t.Errorf("Of(%v) = %#x; want %#x", c.parts, of, c.of)
		}
		if right := sum.Right(c.parts...); right != c.right {
			t.Errorf("Right(%v) = %t", c.parts, right)
		}
	}
}

// P2.2: Change, of sums that may be.
func TestChange(t *testing.T) {
	for _, c := range []struct {
		sum      int
		old, now []byte
		want     int
	}{
		{0xDD2F, []byte{0x55, 0x55}, []byte{0x32, 0x85}, 0},
		{0x1234, nil, nil, 0x1234},
		{0, nil, nil, 0},
		{65535, nil, nil, 65535},
		{0, nil, []byte{0, 1}, 65534},
		{65535, nil, []byte{0xFF, 0xFF}, 0},
		{65535, []byte{0, 0}, nil, 0},
		{0, []byte{0xFF, 0xFF}, []byte{0, 0}, 0},
		{0x1234, []byte{0, 5}, []byte{0, 7}, 0x1232},
		{0x1234, []byte{5}, []byte{7}, 0x1034},
		{0x1234, []byte{0, 1, 2}, []byte{0, 2, 3}, 0x1133},
		{0x1234, []byte{0, 5, 0, 6}, []byte{0, 7}, 0x1234 + 5 + 6 - 7},
	} {
		if got := sum.Change(c.sum, c.old, c.now); got != c.want {
			t.Errorf("Change(%#x, %v, %v) = %#x; want %#x", c.sum, c.old, c.now, got, c.want)
		}
	}
}

// P2.2: 0 of what is no sum.
func TestChangeOfNoSum(t *testing.T) {
	for _, n := range []int{math.MinInt, -65536, -1, 65536, 1 << 32, math.MaxInt} {
		if got := sum.Change(n, []byte{1, 2}, []byte{3, 4}); got != 0 {
			t.Errorf("Change of the sum %d = %#x", n, got)
		}
	}
}

// R3: nothing that is handed in is changed, its spare room included.
func TestNothingIsChanged(t *testing.T) {
	whole := []byte{1, 2, 3, 0xEE, 0xEE, 4, 5, 6, 0xEE, 0xEE}
	was := slices.Clone(whole)
	one, two := whole[:3], whole[5:8]
	sum.Add(one, two)
	sum.Of(one, two)
	sum.Right(one, two)
	sum.Change(7, one, two)
	if !bytes.Equal(whole, was) {
		t.Errorf("%v became %v", was, whole)
	}
}

// some are n bytes, often 0 or 255, where folding has its edges.
func some(r *rand.Rand, n int) []byte {
	b := make([]byte, n)
	kind := r.IntN(4)
	for i := range b {
		switch kind {
		case 0:
			b[i] = byte(r.IntN(256))
		case 1:
			b[i] = byte(255 * r.IntN(2))
		case 2:
			b[i] = 255
		}
	}
	return b
}

func allZero(parts ...[]byte) bool {
	for _, p := range parts {
		for _, x := range p {
			if x != 0 {
				return false
			}
		}
	}
	return true
}

// P2.3: bytes with their Of behind them, at an even place, are Right.
func TestRightWithOf(t *testing.T) {
	r := rand.New(rand.NewPCG(2, 3))
	for range 5000 {
		b := some(r, 2*r.IntN(20))
		if s := sum.Of(b); !sum.Right(be.Put(b, s, 2)) {
			t.Fatalf("%v with %#x behind it is not right", b, s)
		}
		odd := append(b, 7)
		if s := sum.Of(odd); !sum.Right(odd, be.Put(nil, s, 2)) {
			t.Fatalf("%v, and %#x as a part behind it, is not right", odd, s)
		}
	}
}

// P2.4: a sum that was right is right, changed, behind others in their place, unless all bytes are 0 then.
func TestChangedStaysRight(t *testing.T) {
	r := rand.New(rand.NewPCG(2, 4))
	right, zero := 0, 0
	for range 20000 {
		ahead, behind := some(r, 2*r.IntN(3)), some(r, 2*r.IntN(3))
		size := 2 * r.IntN(5)
		if len(behind) == 0 {
			size += r.IntN(2)
		}
		old, now := some(r, size), some(r, size)
		s := sum.Of(ahead, old, behind)
		if s == 0 && r.IntN(2) == 0 {
			s = 65535 // the other sum that is right behind what adds up to 65535
		}
		if !sum.Right(ahead, old, behind, be.Put(nil, s, 2)) {
			t.Fatalf("%v %v %v: the sum %#x is not right", ahead, old, behind, s)
		}
		tail := be.Put(nil, sum.Change(s, old, now), 2)
		if allZero(ahead, now, behind, tail) {
			zero++
			continue
		}
		if right++; !sum.Right(ahead, now, behind, tail) {
			t.Fatalf("%v %v %v, sum %#x: with %v the sum %v is not right", ahead, old, behind, s, now, tail)
		}
	}
	if right < 1000 || zero == 0 {
		t.Errorf("the test has met %d changes and %d of nothing but 0", right, zero)
	}
}
