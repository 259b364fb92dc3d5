package holes_test

import (
	"bytes"
	"iter"
	"math"
	"math/rand/v2"
	"slices"
	"testing"

	"goosepond/api"
	"goosepond/holes"
)

// piece is what Add is called with.
type piece struct {
	off  int
	more bool
	b    []byte
}

// model is Holes in another way: place by place.
type model []piece

// refused is what P15.1 says of p by itself.
func refused(p piece) api.Errno {
	switch {
	case p.off < 0, p.more && len(p.b) == 0, p.more && len(p.b)%8 != 0:
		return api.ErrForm
	case p.off > 65535, p.off+len(p.b) > 65535:
		return api.ErrLong
	}
	return api.OK
}

func (m *model) add(p piece) api.Errno {
	if e := refused(p); e != api.OK {
		return e
	}
	for _, q := range *m {
		if q.off == p.off && q.more == p.more && string(q.b) == string(p.b) {
			return api.OK
		}
	}
	for i := range p.b {
		for _, q := range *m {
			if q.off <= p.off+i && p.off+i < q.off+len(q.b) {
				return api.ErrTwice
			}
		}
	}
	for _, q := range *m {
		if q.off == p.off && len(q.b) == 0 && len(p.b) == 0 {
			return api.ErrTwice
		}
	}
	end := p.off + len(p.b)
	for _, q := range *m {
		if !p.more && (!q.more || q.off+len(q.b) > end) || !q.more && end > q.off+len(q.b) {
			return api.ErrForm
		}
	}
	*m = append(*m, piece{p.off, p.more, slices.Clone(p.b)})
	return api.OK
}

func (m *model) size() (n int) {
	for _, q := range *m {
		n += len(q.b)
	}
	return n
}

func (m *model) room(off int, b []byte) int {
	for _, q := range *m {
		if q.off == off && string(q.b) == string(b) {
			return 0
		}
	}
	return len(b)
}

// laid are the bytes at their places, and which places a part has.
func (m *model) laid() (all []byte, has []bool, ended bool) {
	end := 0
	for _, q := range *m {
		end = max(end, q.off+len(q.b))
		ended = ended || !q.more
	}
	all, has = make([]byte, end), make([]bool, end)
	for _, q := range *m {
		for i, c := range q.b {
			all[q.off+i], has[q.off+i] = c, true
		}
	}
	return all, has, ended
}

func (m *model) done() ([]byte, bool) {
	all, has, ended := m.laid()
	if !ended || slices.Contains(has, false) {
		return nil, false
	}
	return all, true
}

func (m *model) gaps() (l [][2]int) {
	_, has, _ := m.laid()
	for i, there := range has {
		switch {
		case there:
		case i > 0 && !has[i-1]:
			l[len(l)-1][1] = i + 1
		default:
			l = append(l, [2]int{i, i + 1})
		}
	}
	return l
}

// told are the spans that Gaps goes through.
func told(h *holes.Holes) (l [][2]int) {
	for from, to := range h.Gaps() {
		l = append(l, [2]int{from, to})
	}
	return l
}

// agree fails unless h answers what m does.
func agree(t *testing.T, h *holes.Holes, m *model) {
	t.Helper()
	if n := h.Bytes(); n != m.size() {
		t.Fatalf("%v: Bytes = %d; want %d", *m, n, m.size())
	}
	b, ok := h.Done()
	if want, is := m.done(); ok != is || !bytes.Equal(b, want) || !ok && b != nil {
		t.Fatalf("%v: Done = %x, %v; want %x, %v", *m, b, ok, want, is)
	}
	if l := told(h); !slices.Equal(l, m.gaps()) {
		t.Fatalf("%v: Gaps = %v; want %v", *m, l, m.gaps())
	}
}

// filled are Holes with these parts, all of which must be taken.
func filled(t *testing.T, l ...piece) *holes.Holes {
	t.Helper()
	h := holes.New()
	for _, p := range l {
		if e := h.Add(p.off, p.more, p.b); e != api.OK {
			t.Fatalf("Add(%d, %v, %d bytes) = %d", p.off, p.more, len(p.b), e)
		}
	}
	return h
}

// run is n bytes that count up from off.
func run(off, n int) []byte {
	b := make([]byte, n)
	for i := range b {
		b[i] = byte(off + i + (off+i)>>8)
	}
	return b
}

// mid is a part that is not the last one, end the last one: of n bytes as run has them.
func mid(off, n int) piece { return piece{off, true, run(off, n)} }
func end(off, n int) piece { return piece{off, false, run(off, n)} }

// spare is b with room behind that holds 0xEE.
func spare(b []byte) []byte {
	s := append(slices.Clone(b), bytes.Repeat([]byte{0xEE}, 8)...)
	return s[:len(b)]
}

// spoil writes over all of b, and over its spare room.
func spoil(b []byte) {
	b = b[:cap(b)]
	for i := range b {
		b[i] = 0x77
	}
}

// P15.1, P15.2: the chapter's example.
func TestExample(t *testing.T) {
	h := holes.New()
	if e := h.Add(8, false, []byte("b")); e != api.OK {
		t.Fatal(e)
	}
	if b, ok := h.Done(); b != nil || ok {
		t.Errorf("Done = %q, %v ahead of the first part", b, ok)
	}
	if e := h.Add(0, true, []byte("12345678")); e != api.OK {
		t.Fatal(e)
	}
	if b, ok := h.Done(); string(b) != "12345678b" || !ok {
		t.Errorf("Done = %q, %v", b, ok)
	}
}

// P15.1: what Add says of one part more, and that nothing changes where it is refused, or there already.
func TestAdd(t *testing.T) {
	other := func(p piece) piece { // the same place, other bytes
		p.b = slices.Clone(p.b)
		p.b[len(p.b)-1]++
		return p
	}
	for _, c := range []struct {
		name  string
		there []piece
		p     piece
		want  api.Errno
	}{
		{"the first one", nil, mid(0, 8), api.OK},
		{"off 1", nil, mid(1, 8), api.OK},
		{"off -1", nil, mid(-1, 8), api.ErrForm},
		{"off -1, last", nil, end(-1, 8), api.ErrForm},
		{"off -8, without bytes", nil, piece{-8, false, nil}, api.ErrForm},
		{"the least off", nil, piece{math.MinInt, false, run(0, 8)}, api.ErrForm},
		{"more without bytes", nil, mid(8, 0), api.ErrForm},
		{"more with 1", nil, mid(0, 1), api.ErrForm},
		{"more with 7", nil, mid(0, 7), api.ErrForm},
		{"more with 9", nil, mid(0, 9), api.ErrForm},
		{"more with 12", nil, mid(0, 12), api.ErrForm},
		{"more with 16", nil, mid(0, 16), api.OK},
		{"last with 1", nil, end(0, 1), api.OK},
		{"last with 9", nil, end(3, 9), api.OK},
		{"last without bytes", nil, end(8, 0), api.OK},
		{"last without bytes at 0", nil, end(0, 0), api.OK},
		{"the greatest", nil, end(0, 65535), api.OK},
		{"one byte too many", nil, end(0, 65536), api.ErrLong},
		{"more, one byte too many", nil, mid(0, 65536), api.ErrLong},
		{"more, to the limit", nil, mid(7, 65528), api.OK},
		{"up to the limit", nil, end(65528, 7), api.OK},
		{"above the limit", nil, end(65528, 8), api.ErrLong},
		{"more, above the limit", nil, mid(65528, 8), api.ErrLong},
		{"no bytes at the limit", nil, end(65535, 0), api.OK},
		{"no bytes above the limit", nil, end(65536, 0), api.ErrLong},
		{"the greatest off", nil, piece{math.MaxInt, false, nil}, api.ErrLong},
		{"the greatest off with bytes", nil, piece{math.MaxInt - 3, false, run(0, 8)}, api.ErrLong},
		{"more without bytes ahead of ErrLong", nil, piece{70000, true, nil}, api.ErrForm},
		{"no multiple of 8 ahead of ErrLong", nil, piece{70000, true, run(0, 9)}, api.ErrForm},
		{"off -1 with too many", nil, end(-1, 70000), api.ErrForm},

		{"the same", []piece{mid(8, 8), mid(0, 8)}, mid(8, 8), api.OK},
		{"the same last one", []piece{end(8, 3)}, end(8, 3), api.OK},
		{"the same last one among others", []piece{mid(0, 8), end(16, 3), mid(8, 8)}, end(16, 3), api.OK},
		{"the same without bytes", []piece{mid(0, 8), end(8, 0)}, end(8, 0), api.OK},
		{"the same without bytes at 0", []piece{end(0, 0)}, end(0, 0), api.OK},
		{"the same, now last", []piece{mid(0, 8)}, end(0, 8), api.ErrTwice},
		{"the same, now more", []piece{end(0, 8)}, mid(0, 8), api.ErrTwice},
		{"other bytes", []piece{mid(0, 8)}, other(mid(0, 8)), api.ErrTwice},
		{"other bytes of the last one", []piece{end(0, 3)}, other(end(0, 3)), api.ErrTwice},
		{"fewer of the same", []piece{mid(0, 16)}, mid(0, 8), api.ErrTwice},
		{"more of the same", []piece{mid(0, 8)}, mid(0, 16), api.ErrTwice},
		{"the end of one", []piece{mid(0, 16)}, mid(8, 8), api.ErrTwice},
		{"within one", []piece{mid(0, 24)}, mid(8, 8), api.ErrTwice},
		{"around one", []piece{mid(8, 8)}, mid(0, 24), api.ErrTwice},
		{"around several", []piece{mid(8, 8), mid(24, 8), mid(40, 8)}, mid(0, 64), api.ErrTwice},
		{"the first place of one", []piece{mid(8, 8)}, mid(1, 8), api.ErrTwice},
		{"the last place of one", []piece{mid(8, 8)}, mid(15, 8), api.ErrTwice},
		{"the last place of a great one", []piece{mid(0, 800)}, mid(799, 8), api.ErrTwice},
		{"over the next one's beginning", []piece{mid(0, 8), mid(24, 8)}, mid(10, 16), api.ErrTwice},
		{"over two", []piece{mid(0, 8), mid(12, 8)}, mid(7, 8), api.ErrTwice},
		{"just ahead of one", []piece{mid(8, 8)}, mid(0, 8), api.OK},
		{"just behind one", []piece{mid(8, 8)}, mid(16, 8), api.OK},
		{"between two", []piece{mid(16, 8), mid(0, 8)}, mid(8, 8), api.OK},
		{"far from any", []piece{mid(0, 8)}, mid(800, 8), api.OK},
		{"a place of the last one", []piece{end(8, 3)}, mid(10, 8), api.ErrTwice},
		{"a last one within one", []piece{mid(0, 16)}, end(4, 1), api.ErrTwice},
		{"a second last one on one", []piece{mid(0, 8), end(8, 8)}, end(4, 12), api.ErrTwice},

		{"a second last one behind", []piece{end(8, 3)}, end(11, 1), api.ErrForm},
		{"a second last one ahead", []piece{end(8, 3)}, end(0, 8), api.ErrForm},
		{"a second last one with the same end", []piece{end(8, 3)}, end(11, 0), api.ErrForm},
		{"a second last one without bytes", []piece{end(8, 0)}, end(0, 0), api.ErrForm},
		{"a second last one up to one without bytes", []piece{end(8, 0)}, end(0, 8), api.ErrForm},
		{"last, ahead of a part", []piece{mid(8, 8)}, end(0, 8), api.ErrForm},
		{"last, far ahead of a part", []piece{mid(80, 8)}, end(0, 3), api.ErrForm},
		{"last, ahead of one of two", []piece{mid(0, 8), mid(24, 8)}, end(8, 3), api.ErrForm},
		{"last without bytes, where a part begins", []piece{mid(8, 8)}, end(8, 0), api.ErrForm},
		{"last without bytes, within a part", []piece{mid(0, 8)}, end(7, 0), api.ErrForm},
		{"last without bytes, where a part ends", []piece{mid(0, 8)}, end(8, 0), api.OK},
		{"last, where a part ends", []piece{mid(0, 8)}, end(8, 1), api.OK},
		{"last, behind a gap", []piece{mid(0, 8)}, end(24, 1), api.OK},
		{"behind the last one", []piece{end(8, 8)}, mid(16, 8), api.ErrForm},
		{"far behind the last one", []piece{end(0, 1)}, mid(80, 8), api.ErrForm},
		{"behind a last one without bytes", []piece{end(8, 0)}, mid(8, 8), api.ErrForm},
		{"over a last one without bytes", []piece{end(8, 0)}, mid(0, 16), api.ErrForm},
		{"up to a last one without bytes", []piece{end(8, 0)}, mid(0, 8), api.OK},
		{"over the last one's end", []piece{end(8, 8)}, mid(12, 8), api.ErrTwice},
		{"ahead of the last one", []piece{end(24, 8)}, mid(8, 8), api.OK},
		{"ahead of and up to the last one", []piece{end(24, 8)}, mid(16, 8), api.OK},
		{"no multiple of 8 ahead of ErrTwice", []piece{mid(0, 8)}, mid(0, 9), api.ErrForm},
		{"too long ahead of ErrTwice", []piece{mid(0, 8)}, end(0, 65536), api.ErrLong},
		{"too long ahead of ErrForm", []piece{end(0, 8)}, end(65535, 1), api.ErrLong},
	} {
		h, m := filled(t, c.there...), model{}
		for _, p := range c.there {
			m.add(p)
		}
		if e := h.Add(c.p.off, c.p.more, c.p.b); e != c.want {
			t.Errorf("%s: Add = %d; want %d", c.name, e, c.want)
		}
		if e := m.add(c.p); e != c.want {
			t.Errorf("%s: the model says %d; want %d", c.name, e, c.want)
		}
		agree(t, h, &m)
	}
}

// P15.2: Done and Bytes, part by part.
func TestDone(t *testing.T) {
	for _, c := range []struct {
		name string
		l    []piece
		want bool
	}{
		{"none", nil, false},
		{"one, more", []piece{mid(0, 8)}, false},
		{"one, last", []piece{end(0, 3)}, true},
		{"one, last, without bytes", []piece{end(0, 0)}, true},
		{"a last one that begins later", []piece{end(8, 3)}, false},
		{"a last one without bytes that begins later", []piece{end(8, 0)}, false},
		{"two", []piece{mid(0, 8), end(8, 3)}, true},
		{"a last one without bytes behind one", []piece{mid(0, 8), end(8, 0)}, true},
		{"all but the last", []piece{mid(0, 8), mid(8, 8)}, false},
		{"all but the first", []piece{end(16, 8), mid(8, 8)}, false},
		{"all but one within", []piece{mid(0, 8), end(16, 8)}, false},
		{"all but one byte", []piece{mid(0, 8), end(9, 8)}, false},
		{"all but the first byte", []piece{mid(1, 8), end(9, 8)}, false},
		{"all but the byte ahead of an end", []piece{mid(0, 8), end(9, 0)}, false},
		{"three, backwards", []piece{end(40, 1), mid(16, 24), mid(0, 16)}, true},
		{"the greatest", []piece{end(65528, 7), mid(0, 65528)}, true},
		{"off of every kind", []piece{mid(3, 8), end(11, 2), end(11, 2), mid(3, 8)}, false},
	} {
		h, m := filled(t, c.l...), model{}
		for _, p := range c.l {
			m.add(p)
		}
		all, _, _ := m.laid()
		b, ok := h.Done()
		if ok != c.want || c.want && !bytes.Equal(b, all) || !c.want && b != nil {
			t.Errorf("%s: Done = %d bytes, %v", c.name, len(b), ok)
		}
		agree(t, h, &m)
		// It stays so: Done takes nothing away.
		agree(t, h, &m)
	}
}

// P15.2: Gaps, span by span.
func TestGaps(t *testing.T) {
	for _, c := range []struct {
		name string
		l    []piece
		want [][2]int
	}{
		{"none", nil, nil},
		{"one", []piece{mid(0, 8)}, nil},
		{"the first byte", []piece{mid(1, 8)}, [][2]int{{0, 1}}},
		{"all ahead", []piece{mid(80, 8)}, [][2]int{{0, 80}}},
		{"one between", []piece{mid(16, 8), mid(0, 8)}, [][2]int{{8, 16}}},
		{"one byte between", []piece{mid(9, 8), mid(0, 8)}, [][2]int{{8, 9}}},
		{"two that touch", []piece{mid(8, 8), mid(16, 8)}, [][2]int{{0, 8}}},
		{"three, rising", []piece{mid(56, 8), mid(8, 8), mid(24, 16)}, [][2]int{{0, 8}, {16, 24}, {40, 56}}},
		{"up to an end", []piece{end(80, 1), mid(0, 16)}, [][2]int{{16, 80}}},
		{"up to an end without bytes", []piece{end(80, 0), mid(8, 8)}, [][2]int{{0, 8}, {16, 80}}},
		{"up to an end without bytes alone", []piece{end(65535, 0)}, [][2]int{{0, 65535}}},
		{"an end at 0", []piece{end(0, 0)}, nil},
		{"all there", []piece{end(16, 1), mid(0, 16)}, nil},
	} {
		if l := told(filled(t, c.l...)); !slices.Equal(l, c.want) {
			t.Errorf("%s: Gaps = %v; want %v", c.name, l, c.want)
		}
	}
}

// R7: Gaps tells the same twice, and nothing more to who ends early; what is asked meanwhile changes nothing.
func TestGapsTwice(t *testing.T) {
	h := filled(t, mid(8, 8), mid(24, 8), mid(40, 8))
	want := [][2]int{{0, 8}, {16, 24}, {32, 40}}
	g := h.Gaps()
	for stop := range 4 {
		var l [][2]int
		for from, to := range g {
			l = append(l, [2]int{from, to})
			h.Done()
			h.Room(8, nil)
			if len(l) == stop {
				break
			}
		}
		if n := max(1, stop); stop > 0 && !slices.Equal(l, want[:n]) || stop == 0 && !slices.Equal(l, want) {
			t.Errorf("up to %d: Gaps = %v", stop, l)
		}
	}
	calls := 0
	g(func(int, int) bool {
		calls++
		return false
	})
	if calls != 1 {
		t.Errorf("Gaps told %d spans to one who wants no more", calls)
	}
}

// R3: an iterator that was answered shares nothing with what stands within, so it tells what was there when it was asked for.
func TestGapsStay(t *testing.T) {
	h := holes.New()
	var were [][][2]int
	var asked []iter.Seq2[int, int]
	for _, p := range []piece{mid(80, 8), mid(8, 8), mid(40, 8), mid(0, 8), mid(24, 8), mid(64, 8), end(96, 1), mid(16, 8)} {
		were, asked = append(were, told(h)), append(asked, h.Gaps())
		h.Add(p.off, p.more, p.b)
	}
	for i, g := range asked {
		var l [][2]int
		for from, to := range g {
			l = append(l, [2]int{from, to})
		}
		if !slices.Equal(l, were[i]) {
			t.Errorf("of %d parts: Gaps = %v later; it was %v", i, l, were[i])
		}
	}
	if want := [][2]int{{32, 40}, {48, 64}, {72, 80}, {88, 96}}; !slices.Equal(told(h), want) {
		t.Errorf("Gaps = %v anew; want %v", told(h), want)
	}
}

// P15.2: Room hangs on off and bytes alone.
func TestRoom(t *testing.T) {
	h := filled(t, mid(0, 8), mid(16, 8), end(24, 3))
	for _, c := range []struct {
		name string
		p    piece
		want int
	}{
		{"the same", mid(0, 8), 0},
		{"the same further on", mid(16, 8), 0},
		{"the same last one", end(24, 3), 0},
		{"another off", piece{8, true, run(0, 8)}, 8},
		{"another off within", piece{1, true, run(0, 8)}, 8},
		{"other bytes", piece{0, true, run(1, 8)}, 8},
		{"fewer bytes", piece{0, false, run(0, 7)}, 7},
		{"more bytes", piece{0, true, run(0, 16)}, 16},
		{"a part that may be", mid(8, 8), 8},
		{"no bytes", piece{0, false, nil}, 0},
		{"no bytes, where there is none", piece{8, false, nil}, 0},
		{"what Add refuses for its form", piece{8, false, run(8, 9)}, 9},
		{"off -1", piece{-1, false, run(0, 8)}, 8},
		{"the least off", piece{math.MinInt, false, run(0, 8)}, 8},
		{"the greatest off", piece{math.MaxInt, false, run(0, 8)}, 8},
		{"too many", piece{0, false, make([]byte, 70000)}, 70000},
		{"behind the last one", mid(32, 8), 8},
	} {
		if n := h.Room(c.p.off, c.p.b); n != c.want {
			t.Errorf("%s: Room = %d; want %d", c.name, n, c.want)
		}
	}
	if n := holes.New().Room(0, run(0, 8)); n != 8 {
		t.Errorf("Room = %d of none", n)
	}
	if h.Bytes() != 19 || len(told(h)) != 1 {
		t.Errorf("Room changed them: %d bytes, gaps %v", h.Bytes(), told(h))
	}
}

// P15.2, R5: of what no call made there is nothing.
func TestNotMade(t *testing.T) {
	for name, h := range map[string]*holes.Holes{"nil": nil, "zero": {}} {
		for _, p := range []piece{mid(0, 8), end(0, 0), mid(0, 7), end(-1, 0), end(70000, 1)} {
			if e := h.Add(p.off, p.more, p.b); e != api.ErrNil {
				t.Errorf("%s: Add(%d, %v, %d bytes) = %d", name, p.off, p.more, len(p.b), e)
			}
		}
		if b, ok := h.Done(); b != nil || ok {
			t.Errorf("%s: Done = %v, %v", name, b, ok)
		}
		if h.Bytes() != 0 || h.Room(0, run(0, 8)) != 0 || len(told(h)) != 0 {
			t.Errorf("%s: Bytes %d, Room %d, Gaps %v", name, h.Bytes(), h.Room(0, run(0, 8)), told(h))
		}
	}
}

// R3: what is handed in is neither kept nor changed; what is answered is new memory.
func TestSharesNothing(t *testing.T) {
	h := holes.New()
	want := run(0, 19)
	for _, p := range []piece{end(16, 3), mid(0, 16)} {
		b := spare(p.b)
		h.Add(p.off, p.more, b)
		h.Add(p.off, p.more, b)
		h.Room(p.off, b)
		if !bytes.Equal(b, p.b) || !bytes.Equal(b[len(b):cap(b)][:8], bytes.Repeat([]byte{0xEE}, 8)) {
			t.Errorf("what was handed in is %x now, with %x behind", b, b[len(b):cap(b)])
		}
		spoil(b)
	}
	for range 3 {
		b, ok := h.Done()
		if !bytes.Equal(b, want) || !ok {
			t.Errorf("Done = %x, %v; want %x", b, ok, want)
		}
		spoil(b)
	}
	if h.Room(0, run(0, 16)) != 0 {
		t.Error("a part changed with what was answered")
	}
}

// pieces are all that there may be of these places and numbers of bytes, with bytes that are the same where places are.
func pieces(offs, sizes []int) (l []piece) {
	for _, off := range offs {
		for _, n := range sizes {
			l = append(l, mid(off, n), end(off, n))
		}
	}
	return l
}

// P15.1, P15.2: three parts, whichever they are.
func TestEveryThree(t *testing.T) {
	all := pieces([]int{0, 4, 8, 16}, []int{0, 1, 8, 16})
	all = append(all, piece{8, true, run(0, 8)}, piece{8, false, run(0, 8)}, piece{-1, false, nil})
	for _, a := range all {
		for _, b := range all {
			for _, c := range all {
				h, m := holes.New(), model{}
				for _, p := range []piece{a, b, c} {
					if e, want := h.Add(p.off, p.more, p.b), m.add(p); e != want {
						t.Fatalf("%v, %v, %v: Add = %d; want %d of %v", a, b, c, e, want, p)
					}
				}
				agree(t, h, &m)
			}
		}
	}
}

// P15.1, P15.2: many parts, most of which go together.
func TestMany(t *testing.T) {
	r := rand.New(rand.NewPCG(15, 1))
	for range 3000 {
		h, m := holes.New(), model{}
		whole := 1 + r.IntN(300)
		for range 60 {
			off := r.IntN(whole/8+2) * 8
			p := mid(off, 8*(1+r.IntN(3)))
			switch r.IntN(10) {
			case 0:
				p = end(off, max(0, whole-off))
			case 1:
				p = piece{off + r.IntN(9) - 4, r.IntN(2) == 0, run(r.IntN(3), r.IntN(17))}
			case 2:
				if len(m) > 0 {
					p = m[r.IntN(len(m))]
					p.more = p.more != (r.IntN(4) == 0)
				}
			}
			if n, want := h.Room(p.off, p.b), m.room(p.off, p.b); n != want {
				t.Fatalf("%v: Room(%v) = %d; want %d", m, p, n, want)
			}
			was := h.Bytes()
			room := h.Room(p.off, p.b)
			e, want := h.Add(p.off, p.more, p.b), m.add(p)
			if e != want {
				t.Fatalf("%v: Add(%v) = %d; want %d", m, p, e, want)
			}
			if e == api.OK && h.Bytes() != was+room {
				t.Fatalf("%v: Add(%v) kept %d bytes; Room was %d", m, p, h.Bytes()-was, room)
			}
			agree(t, h, &m)
		}
	}
}

// split is a packet of n bytes in parts.
func split(r *rand.Rand, n int) (l []piece) {
	off := 0
	for n-off > 8 && r.IntN(8) > 0 {
		size := min(8*(1+r.IntN(4)), (n-off)/8*8)
		l = append(l, mid(off, size))
		off += size
	}
	return append(l, end(off, n-off))
}

// P15.3: the order of parts that share no place does not count, nor do parts that come twice.
func TestAnyOrder(t *testing.T) {
	r := rand.New(rand.NewPCG(15, 3))
	for range 5000 {
		n := r.IntN(200)
		l := split(r, n)
		missing := r.IntN(3) == 0
		if missing {
			i := r.IntN(len(l))
			l = slices.Delete(l, i, i+1)
		}
		for range 4 {
			r.Shuffle(len(l), func(i, j int) { l[i], l[j] = l[j], l[i] })
			h := holes.New()
			for i, p := range l {
				for _, q := range []piece{p, l[r.IntN(i+1)]} {
					if e := h.Add(q.off, q.more, q.b); e != api.OK {
						t.Fatalf("%v: Add(%v) = %d", l, q, e)
					}
				}
				if b, ok := h.Done(); ok && i < len(l)-1 {
					t.Fatalf("%v: Done = %x after %d parts", l, b, i+1)
				}
			}
			b, ok := h.Done()
			if ok == missing || ok && !bytes.Equal(b, run(0, n)) {
				t.Fatalf("%v: Done = %x, %v", l, b, ok)
			}
		}
	}
}

// P15.3: every order of six parts.
func TestEveryOrder(t *testing.T) {
	l := []piece{mid(0, 8), mid(8, 16), mid(24, 8), mid(32, 24), mid(56, 8), end(64, 5)}
	var order func(k int)
	order = func(k int) {
		if k == len(l) {
			if b, ok := filled(t, l...).Done(); !ok || !bytes.Equal(b, run(0, 69)) {
				t.Fatalf("%v: Done = %x, %v", l, b, ok)
			}
			return
		}
		for i := k; i < len(l); i++ {
			l[k], l[i] = l[i], l[k]
			order(k + 1)
			l[k], l[i] = l[i], l[k]
		}
	}
	order(0)
}

// R1: as many parts as there may be, in three orders, end.
func TestGreat(t *testing.T) {
	var l []piece
	for off := 0; off < 65528; off += 8 {
		l = append(l, mid(off, 8))
	}
	l = append(l, end(65528, 7))
	for n := range 3 {
		h := holes.New()
		for i, p := range l {
			if _, ok := h.Done(); ok {
				t.Fatalf("Done after %d parts", i)
			}
			if e := h.Add(p.off, p.more, p.b); e != api.OK {
				t.Fatalf("Add(%d) = %d", p.off, e)
			}
		}
		if b, ok := h.Done(); !ok || !bytes.Equal(b, run(0, 65535)) || h.Bytes() != 65535 || len(told(h)) != 0 {
			t.Errorf("Done = %d bytes, %v", len(b), ok)
		}
		if n == 0 {
			slices.Reverse(l)
		} else {
			rand.New(rand.NewPCG(15, 4)).Shuffle(len(l), func(i, j int) { l[i], l[j] = l[j], l[i] })
		}
	}
}
