package join_test

import (
	"bytes"
	"fmt"
	"math"
	"math/rand/v2"
	"slices"
	"testing"

	"goosepond/api"
	"goosepond/holes"
	"goosepond/join"
)

// call is what Add is called with, and what it is to answer.
type call struct {
	key  string
	off  int
	more bool
	b    string
	head string
	now  int

	want  api.Errno
	whole string // what is done with this part, if done
	of    string // the head of that
	done  bool
}

const (
	eight  = "12345678"
	more   = true
	last   = false
	limit  = 1 << 30
	ending = "."
)

// table is New of what may be.
func table(t *testing.T, buffers, size, wait int) *join.Table {
	t.Helper()
	j, e := join.New(buffers, size, wait)
	if e != api.OK || j == nil {
		t.Fatalf("New(%d, %d, %d) = %v, %d", buffers, size, wait, j, e)
	}
	return j
}

// play makes the calls, and fails where one answers anything else.
func play(t *testing.T, name string, j *join.Table, l []call) {
	t.Helper()
	for i, c := range l {
		head, b, done, e := j.Add(c.key, c.off, c.more, []byte(c.b), c.head, c.now)
		if head != c.of || string(b) != c.whole || done != c.done || e != c.want || !done && b != nil {
			t.Errorf("%s, call %d: Add = %q, %q, %v, %d; want %q, %q, %v, %d", name, i, head, b, done, e, c.of, c.whole, c.done, c.want)
		}
	}
}

// has fails unless these keys, and so many bytes, are in j.
func has(t *testing.T, name string, j *join.Table, size int, keys ...string) {
	t.Helper()
	if j.Bytes() != size || j.Bufs() != len(keys) || !slices.Equal(j.Keys(), keys) {
		t.Errorf("%s: %d bytes, %d buffers, %q; want %d bytes, %q", name, j.Bytes(), j.Bufs(), j.Keys(), size, keys)
	}
}

// P16.1: what New takes, and what it refuses.
func TestNew(t *testing.T) {
	for _, c := range []struct {
		buffers, size, wait int
		want                api.Errno
	}{
		{0, 0, 1, api.OK},
		{1, 100, 60, api.OK},
		{limit, limit, api.MaxTime, api.OK},
		{-1, 0, 1, api.ErrArg},
		{0, -1, 1, api.ErrArg},
		{0, 0, 0, api.ErrArg},
		{0, 0, -1, api.ErrArg},
		{limit + 1, 0, 1, api.ErrArg},
		{0, limit + 1, 1, api.ErrArg},
		{0, 0, api.MaxTime + 1, api.ErrArg},
		{math.MinInt, 0, 1, api.ErrArg},
		{0, math.MinInt, 1, api.ErrArg},
		{0, 0, math.MinInt, api.ErrArg},
		{math.MaxInt, 0, 1, api.ErrArg},
		{0, math.MaxInt, 1, api.ErrArg},
		{0, 0, math.MaxInt, api.ErrArg},
	} {
		j, e := join.New(c.buffers, c.size, c.wait)
		if e != c.want || (j == nil) != (e != api.OK) {
			t.Errorf("New(%d, %d, %d) = %v, %d; want %d", c.buffers, c.size, c.wait, j, e, c.want)
		}
		if e == api.OK {
			has(t, "a new one", j, 0)
		}
	}
}

// P16.1: the chapter's example.
func TestExample(t *testing.T) {
	j := table(t, 1, 100, 60)
	play(t, "example 1", j, []call{
		{key: "a", more: more, b: eight},
		{key: "b", more: more, b: eight, want: api.ErrFull},
	})
	has(t, "example 1", j, 8, "a")
}

// P16.1: calls of Add, one behind the other, and what is there afterwards.
func TestAdd(t *testing.T) {
	for _, c := range []struct {
		name          string
		buffers, size int
		l             []call
		left          int
		keys          []string
	}{
		{"one part that is all", 1, 100, []call{
			{key: "a", b: "all", head: "h", done: true, whole: "all", of: "h"},
		}, 0, nil},
		{"no bytes that are all", 1, 0, []call{
			{key: "a", head: "h", done: true, of: "h"},
		}, 0, nil},
		{"two parts", 1, 100, []call{
			{key: "a", more: more, b: eight, head: "first"},
			{key: "a", off: 8, b: ending, head: "second", done: true, whole: eight + ending, of: "first"},
		}, 0, nil},
		{"two parts, backwards", 1, 100, []call{
			{key: "a", off: 8, b: ending, head: "second"},
			{key: "a", more: more, b: eight, head: "first", done: true, whole: eight + ending, of: "first"},
		}, 0, nil},
		{"without heads", 1, 100, []call{
			{key: "a", off: 8, b: ending},
			{key: "a", more: more, b: eight, done: true, whole: eight + ending},
		}, 0, nil},
		{"a head with the other part alone", 1, 100, []call{
			{key: "a", off: 8, b: ending, head: "second"},
			{key: "a", more: more, b: eight, done: true, whole: eight + ending},
		}, 0, nil},
		{"the first one's head of two", 1, 100, []call{
			{key: "a", more: more, b: eight, head: "first"},
			{key: "a", more: more, b: eight, head: "again"},
			{key: "a", off: 8, b: ending, head: "second", done: true, whole: eight + ending, of: "first"},
		}, 0, nil},
		{"the first one's empty head of two", 1, 100, []call{
			{key: "a", more: more, b: eight},
			{key: "a", more: more, b: eight, head: "again"},
			{key: "a", off: 8, b: ending, head: "second", done: true, whole: eight + ending},
		}, 0, nil},
		{"two keys", 2, 100, []call{
			{key: "b", more: more, b: eight, head: "of b"},
			{key: "a", off: 8, b: ending, head: "no"},
			{key: "a", more: more, b: eight, head: "of a", done: true, whole: eight + ending, of: "of a"},
			{key: "b", off: 8, b: "!", done: true, whole: eight + "!", of: "of b"},
		}, 0, nil},
		{"keys of any bytes", 4, 100, []call{
			{key: "", more: more, b: eight},
			{key: "\x00", more: more, b: eight},
			{key: "\xff\xfe", more: more, b: eight},
			{key: "é", more: more, b: eight},
			{key: "", off: 8, b: ending, done: true, whole: eight + ending},
		}, 24, []string{"\x00", "é", "\xff\xfe"}},
		{"anew, when all was there", 1, 100, []call{
			{key: "a", b: "one", head: "1", done: true, whole: "one", of: "1"},
			{key: "a", off: 8, b: "two", head: "2"},
			{key: "a", more: more, b: eight, head: "3", done: true, whole: eight + "two", of: "3"},
		}, 0, nil},

		{"no buffers", 0, 100, []call{
			{key: "a", b: "all", want: api.ErrFull},
			{key: "a", off: -1, b: "all", want: api.ErrFull},
		}, 0, nil},
		{"one buffer too many", 2, 100, []call{
			{key: "a", more: more, b: eight},
			{key: "b", more: more, b: eight},
			{key: "c", b: "all", want: api.ErrFull},
			{key: "b", off: 8, b: ending, done: true, whole: eight + ending},
			{key: "c", b: "all", done: true, whole: "all"},
		}, 8, []string{"a"}},
		{"no bytes", 1, 0, []call{
			{key: "a", b: "a", want: api.ErrFull},
			{key: "a", off: 8},
		}, 0, []string{"a"}},
		{"as many bytes as may be", 1, 9, []call{
			{key: "a", more: more, b: eight},
			{key: "a", off: 8, b: ending, done: true, whole: eight + ending},
		}, 0, nil},
		{"one byte too many", 1, 8, []call{
			{key: "a", more: more, b: eight, head: "h"},
			{key: "a", off: 8, b: ending, want: api.ErrFull},
			{key: "a", off: 8, done: true, whole: eight, of: "h"},
		}, 0, nil},
		{"one byte too many of another one, which is gone", 2, 16, []call{
			{key: "a", more: more, b: eight},
			{key: "b", b: eight + ending, want: api.ErrFull},
		}, 8, []string{"a"}},
		{"one byte too many of one that stays", 3, 16, []call{
			{key: "a", more: more, b: eight},
			{key: "b", off: 8, more: more, b: eight},
			{key: "b", off: 16, b: ending, want: api.ErrFull},
		}, 16, []string{"a", "b"}},
		{"the same where it is full", 1, 8, []call{
			{key: "a", more: more, b: eight},
			{key: "a", more: more, b: eight},
		}, 8, []string{"a"}},
		{"the same, now last, where it is full", 1, 8, []call{
			{key: "a", more: more, b: eight},
			{key: "a", more: last, b: eight, want: api.ErrTwice},
		}, 0, nil},
		{"ErrFull of buffers ahead of ErrForm", 1, 100, []call{
			{key: "a", more: more, b: eight},
			{key: "b", off: -1, b: eight, want: api.ErrFull},
		}, 8, []string{"a"}},
		{"ErrFull of bytes ahead of ErrForm, which leaves the buffer", 1, 10, []call{
			{key: "a", more: more, b: eight},
			{key: "a", off: 8, more: more, b: "123", want: api.ErrFull},
			{key: "a", off: -1, b: "123", want: api.ErrFull},
		}, 8, []string{"a"}},
		{"ErrFull of bytes ahead of ErrTwice, which leaves the buffer", 1, 10, []call{
			{key: "a", more: more, b: eight},
			{key: "a", more: more, b: "abcdefgh", want: api.ErrFull},
		}, 8, []string{"a"}},
		{"room for another one, when all was there", 1, 9, []call{
			{key: "a", more: more, b: eight},
			{key: "a", off: 8, b: ending, done: true, whole: eight + ending},
			{key: "b", more: more, b: eight},
		}, 8, []string{"b"}},

		{"ErrTwice", 2, 100, []call{
			{key: "a", more: more, b: eight, head: "1"},
			{key: "b", more: more, b: eight, head: "2"},
			{key: "a", more: more, b: "abcdefgh", want: api.ErrTwice},
			{key: "b", off: 8, b: ending, done: true, whole: eight + ending, of: "2"},
			{key: "a", off: 8, b: ending},
			{key: "a", more: more, b: "abcdefgh", head: "3", done: true, whole: "abcdefgh" + ending, of: "3"},
		}, 0, nil},
		{"ErrTwice of some bytes", 2, 100, []call{
			{key: "a", more: more, b: eight + eight},
			{key: "b", more: more, b: eight},
			{key: "a", off: 12, b: eight, want: api.ErrTwice},
		}, 8, []string{"b"}},
		{"ErrForm", 2, 100, []call{
			{key: "a", more: more, b: eight},
			{key: "b", more: more, b: eight},
			{key: "a", off: 8, more: more, b: "123", want: api.ErrForm},
		}, 8, []string{"b"}},
		{"ErrForm of a second last one", 2, 100, []call{
			{key: "a", off: 8, b: ending},
			{key: "a", off: 16, b: ending, want: api.ErrForm},
		}, 0, nil},
		{"ErrForm of off -1", 2, 100, []call{
			{key: "a", more: more, b: eight},
			{key: "a", off: -1, b: ending, want: api.ErrForm},
		}, 0, nil},
		{"ErrForm of the first part", 1, 100, []call{
			{key: "a", more: more, b: "123", want: api.ErrForm},
			{key: "b", off: math.MinInt, b: ending, want: api.ErrForm},
		}, 0, nil},
		{"ErrLong", 2, 100, []call{
			{key: "a", more: more, b: eight},
			{key: "b", more: more, b: eight},
			{key: "b", off: 65535, b: ending, want: api.ErrLong},
		}, 8, []string{"a"}},
		{"ErrLong of the first part", 1, 100, []call{
			{key: "a", off: 65535, b: ending, want: api.ErrLong},
			{key: "b", off: math.MaxInt, b: ending, want: api.ErrLong},
		}, 0, nil},
		{"ErrLong of many bytes", 1, limit, []call{
			{key: "a", more: more, b: eight},
			{key: "a", off: 8, b: string(make([]byte, 70000)), want: api.ErrLong},
		}, 0, nil},
		{"the room that a refused one had", 1, 16, []call{
			{key: "a", more: more, b: eight},
			{key: "a", off: 3, b: eight, want: api.ErrTwice},
			{key: "b", more: more, b: eight},
			{key: "b", off: 8, b: eight, done: true, whole: eight + eight},
		}, 0, nil},
	} {
		j := table(t, c.buffers, c.size, 60)
		play(t, c.name, j, c.l)
		has(t, c.name, j, c.left, c.keys...)
	}
}

// P16.1: the greatest packet, in as many parts as may be, in any order.
func TestGreat(t *testing.T) {
	whole := make([]byte, 65535)
	for i := range whole {
		whole[i] = byte(i * 7 >> 3)
	}
	r := rand.New(rand.NewPCG(16, 1))
	j := table(t, 1, 65535, 1)
	for n, at := range r.Perm(8192) {
		to := min(8*at+8, len(whole))
		head, b, done, e := j.Add("k", 8*at, to < len(whole), whole[8*at:to], fmt.Sprint(at), 0)
		if e != api.OK || done != (n == 8191) || done && (head != "0" || !bytes.Equal(b, whole)) {
			t.Fatalf("part %d at %d: Add = %q, %d bytes, %v, %d", n, 8*at, head, len(b), done, e)
		}
	}
	has(t, "the greatest", j, 0)
}

// begun is a table with these keys, whose buffers began at these times.
func begun(t *testing.T, wait int, at map[string]int) *join.Table {
	t.Helper()
	j := table(t, 100, 10000, wait)
	for key, now := range at {
		if _, _, _, e := j.Add(key, 0, true, []byte(eight), "", now); e != api.OK {
			t.Fatalf("Add(%q) = %d", key, e)
		}
	}
	return j
}

// P16.2: which buffers are gone at a time, and which stay.
func TestExpire(t *testing.T) {
	times := map[string]int{"e": 0, "d": 10, "c": 10, "b": 11, "a": 70}
	top := map[string]int{"a": api.MaxTime, "b": api.MaxTime - 1, "c": math.MaxInt, "d": api.MaxTime + 1, "e": 0, "f": -1, "g": math.MinInt}
	for _, c := range []struct {
		name       string
		wait       int
		at         map[string]int
		now        int
		gone, left []string
	}{
		{"none there", 60, nil, 1000, nil, nil},
		{"too early for any", 60, times, 59, nil, []string{"a", "b", "c", "d", "e"}},
		{"now 0", 60, times, 0, nil, []string{"a", "b", "c", "d", "e"}},
		{"now below 0", 60, times, -1, nil, []string{"a", "b", "c", "d", "e"}},
		{"the least now", 60, times, math.MinInt, nil, []string{"a", "b", "c", "d", "e"}},
		{"the first one's time", 60, times, 60, []string{"e"}, []string{"a", "b", "c", "d"}},
		{"one second ahead", 60, times, 69, []string{"e"}, []string{"a", "b", "c", "d"}},
		{"three", 60, times, 70, []string{"c", "d", "e"}, []string{"a", "b"}},
		{"four", 60, times, 71, []string{"b", "c", "d", "e"}, []string{"a"}},
		{"all", 60, times, 130, []string{"a", "b", "c", "d", "e"}, nil},
		{"long ago", 60, times, math.MaxInt, []string{"a", "b", "c", "d", "e"}, nil},
		{"wait 1, now 0", 1, times, 0, nil, []string{"a", "b", "c", "d", "e"}},
		{"wait 1", 1, times, 11, []string{"c", "d", "e"}, []string{"a", "b"}},
		{"the longest wait, too early", api.MaxTime, times, api.MaxTime - 1, nil, []string{"a", "b", "c", "d", "e"}},
		{"the longest wait", api.MaxTime, times, api.MaxTime, []string{"e"}, []string{"a", "b", "c", "d"}},
		{"held to 0", 60, top, 60, []string{"e", "f", "g"}, []string{"a", "b", "c", "d"}},
		{"held to 0, too early", 60, top, 59, nil, []string{"a", "b", "c", "d", "e", "f", "g"}},
		{"the greatest times, too early", 60, top, api.MaxTime + 58, []string{"e", "f", "g"}, []string{"a", "b", "c", "d"}},
		{"one ahead of the greatest time", 60, top, api.MaxTime + 59, []string{"b", "e", "f", "g"}, []string{"a", "c", "d"}},
		{"held to MaxTime", 60, top, api.MaxTime + 60, []string{"a", "b", "c", "d", "e", "f", "g"}, nil},
	} {
		j := begun(t, c.wait, c.at)
		if gone := j.Expire(c.now); !slices.Equal(gone, c.gone) {
			t.Errorf("%s: Expire = %q; want %q", c.name, gone, c.gone)
		}
		has(t, c.name, j, 8*len(c.left), c.left...)
		if gone := j.Expire(c.now); len(gone) != 0 {
			t.Errorf("%s: Expire = %q at once again", c.name, gone)
		}
	}
}

// P16.2: a buffer waits from its first part on, not from later ones, and begins anew when it was gone.
func TestBegan(t *testing.T) {
	j := table(t, 2, 100, 10)
	play(t, "first", j, []call{
		{key: "a", more: more, b: eight, head: "old", now: 5},
		{key: "a", more: more, b: eight, now: 12},
		{key: "a", off: 16, b: ending, now: 14},
	})
	if gone := j.Expire(14); len(gone) != 0 {
		t.Errorf("Expire(14) = %q", gone)
	}
	if gone := j.Expire(15); !slices.Equal(gone, []string{"a"}) {
		t.Errorf("Expire(15) = %q", gone)
	}
	has(t, "gone", j, 0)
	play(t, "anew", j, []call{
		{key: "a", off: 8, b: ending, head: "no", now: 20},
		{key: "a", off: 8, b: "!", want: api.ErrTwice, now: 21},
		{key: "a", off: 8, b: ending, head: "no", now: 22},
	})
	if gone := j.Expire(31); len(gone) != 0 {
		t.Errorf("Expire(31) = %q", gone)
	}
	play(t, "done", j, []call{
		{key: "a", more: more, b: eight, head: "new", now: 31, done: true, whole: eight + ending, of: "new"},
		{key: "a", more: more, b: eight, now: 31},
	})
	if gone := j.Expire(40); len(gone) != 0 {
		t.Errorf("Expire(40) = %q", gone)
	}
	if gone := j.Expire(41); !slices.Equal(gone, []string{"a"}) {
		t.Errorf("Expire(41) = %q", gone)
	}
}

// P16.2: times may go back; each buffer keeps its own.
func TestTimesGoBack(t *testing.T) {
	j := table(t, 5, 100, 10)
	play(t, "back", j, []call{
		{key: "late", more: more, b: eight, now: 50},
		{key: "early", more: more, b: eight, now: 3},
	})
	if gone := j.Expire(59); !slices.Equal(gone, []string{"early"}) {
		t.Errorf("Expire(59) = %q", gone)
	}
	if gone := j.Expire(20); len(gone) != 0 {
		t.Errorf("Expire(20) = %q", gone)
	}
	has(t, "back", j, 8, "late")
}

// P16.2, R4: keys rise as bytes do, whatever order they came in.
func TestKeysRise(t *testing.T) {
	r := rand.New(rand.NewPCG(16, 2))
	want := []string{"", "\x00", "\x00\x00", "A", "B", "a", "a\x00", "aa", "ab", "b", "é", "日", "\xff", "\xff\x00"}
	for range 20 {
		j := table(t, 100, 10000, 1)
		for _, i := range r.Perm(len(want)) {
			j.Add(want[i], 8, true, []byte(eight), "", 0)
		}
		has(t, "rising", j, 8*len(want), want...)
		if gone := j.Expire(1); !slices.Equal(gone, want) {
			t.Errorf("Expire = %q; want %q", gone, want)
		}
	}
}

// P16.2, R5: of what no call made there is nothing.
func TestNotMade(t *testing.T) {
	refused, _ := join.New(-1, 0, 1)
	for name, j := range map[string]*join.Table{"nil": nil, "zero": {}, "refused": refused} {
		play(t, name, j, []call{
			{key: "a", b: "all", head: "h", want: api.ErrNil},
			{key: "a", more: more, b: eight, want: api.ErrNil, now: -1},
			{key: "a", off: -1, b: eight, want: api.ErrNil},
			{key: "", want: api.ErrNil},
		})
		for _, now := range []int{math.MinInt, -1, 0, 1, math.MaxInt} {
			if gone := j.Expire(now); len(gone) != 0 {
				t.Errorf("%s: Expire(%d) = %q", name, now, gone)
			}
		}
		has(t, name, j, 0)
	}
}

// spare is b with room behind that holds 0xEE.
func spare(b string) []byte {
	s := append([]byte(b), bytes.Repeat([]byte{0xEE}, 8)...)
	return s[:len(b)]
}

// spoil writes over all of b, and over its spare room.
func spoil(b []byte) {
	b = b[:cap(b)]
	for i := range b {
		b[i] = 0x77
	}
}

// R3: what is handed in is neither kept nor changed; what is answered is new memory.
func TestSharesNothing(t *testing.T) {
	j := table(t, 5, 100, 1)
	first := spare(eight)
	j.Add("a", 0, true, first, "h", 0)
	if string(first) != eight || !bytes.Equal(first[8:16], bytes.Repeat([]byte{0xEE}, 8)) {
		t.Errorf("what was handed in is %x now", first[:16])
	}
	spoil(first)
	end := spare("all")
	_, b, done, _ := j.Add("a", 8, false, end, "", 0)
	spoil(end)
	if string(b) != eight+"all" || !done {
		t.Errorf("Add = %q, %v", b, done)
	}
	alone := spare("all")
	_, b, _, _ = j.Add("b", 0, false, alone, "", 0)
	spoil(b)
	if string(alone) != "all" || alone[:4][3] != 0xEE {
		t.Errorf("what was handed in is %x now", alone[:4])
	}
	j.Add("c", 8, true, []byte(eight), "", 0)
	j.Add("d", 8, true, []byte(eight), "", 0)
	keys := j.Keys()
	keys[0], keys[1] = "x", "y"
	has(t, "keys that were changed", j, 16, "c", "d")
}

// slot is a buffer of the model.
type slot struct {
	parts *holes.Holes
	began int
	heads []string // of the parts with off 0
}

// model is a table in another way: sums are made anew each time.
type model struct {
	buffers, size, wait int
	slots               map[string]*slot
}

func (m *model) bytes() (n int) {
	for _, s := range m.slots {
		n += s.parts.Bytes()
	}
	return n
}

func (m *model) keys() []string {
	var l []string
	for key := range m.slots {
		l = append(l, key)
	}
	slices.Sort(l)
	return l
}

func (m *model) add(key string, off int, more bool, b []byte, head string, now int) (string, []byte, bool, api.Errno) {
	s := m.slots[key]
	begins := s == nil
	if begins {
		if len(m.slots) == m.buffers {
			return "", nil, false, api.ErrFull
		}
		s = &slot{parts: holes.New(), began: now}
		m.slots[key] = s
	}
	if m.bytes()+s.parts.Room(off, b) > m.size {
		if begins {
			delete(m.slots, key)
		}
		return "", nil, false, api.ErrFull
	}
	if e := s.parts.Add(off, more, b); e != api.OK {
		delete(m.slots, key)
		return "", nil, false, e
	}
	if off == 0 {
		s.heads = append(s.heads, head)
	}
	all, done := s.parts.Done()
	if !done {
		return "", nil, false, api.OK
	}
	delete(m.slots, key)
	return s.heads[0], all, true, api.OK
}

func (m *model) expire(now int) []string {
	var l []string
	for _, key := range m.keys() {
		if now >= m.wait && m.slots[key].began+m.wait <= now {
			l = append(l, key)
			delete(m.slots, key)
		}
	}
	return l
}

// P16.1, P16.2, P16.3: many calls; bytes and buffers are never more than was allowed.
func TestMany(t *testing.T) {
	r := rand.New(rand.NewPCG(16, 3))
	for range 400 {
		m := &model{r.IntN(6), r.IntN(150), 1 + r.IntN(20), map[string]*slot{}}
		j, now := table(t, m.buffers, m.size, m.wait), 0
		for n := range 200 {
			key, off, b := string(rune('a'+r.IntN(7))), 8*r.IntN(4), make([]byte, 8*(1+r.IntN(2)))
			more, head := r.IntN(3) > 0, fmt.Sprint(n)
			switch r.IntN(12) {
			case 0:
				off -= r.IntN(9)
			case 1:
				b = b[:r.IntN(len(b)+1)]
			case 2:
				b[0] = 1
			case 3:
				off = 65500 + r.IntN(40)
			}
			gotHead, got, gotDone, gotE := j.Add(key, off, more, b, head, now)
			wantHead, want, wantDone, wantE := m.add(key, off, more, b, head, now)
			if gotHead != wantHead || !bytes.Equal(got, want) || gotDone != wantDone || gotE != wantE {
				t.Fatalf("Add = %q, %x, %v, %d; want %q, %x, %v, %d", gotHead, got, gotDone, gotE, wantHead, want, wantDone, wantE)
			}
			if r.IntN(5) == 0 {
				now += r.IntN(5)
				if gone, want := j.Expire(now), m.expire(now); !slices.Equal(gone, want) {
					t.Fatalf("Expire(%d) = %q; want %q", now, gone, want)
				}
			}
			has(t, "many", j, m.bytes(), m.keys()...)
			if t.Failed() || j.Bytes() > m.size || j.Bufs() > m.buffers {
				t.Fatalf("%d bytes of %d, %d buffers of %d", j.Bytes(), m.size, j.Bufs(), m.buffers)
			}
		}
	}
}

// R4: the same calls answer the same.
func TestSameTwice(t *testing.T) {
	run := func() string {
		r := rand.New(rand.NewPCG(16, 4))
		j := table(t, 20, 300, 7)
		told := ""
		for n := range 500 {
			head, b, done, e := j.Add(fmt.Sprint(r.IntN(30)), 8*r.IntN(3), r.IntN(3) > 0, make([]byte, 8), fmt.Sprint(n), n/9)
			told += fmt.Sprintln(head, b, done, e, j.Keys(), j.Bytes(), j.Expire(n/9))
		}
		return told
	}
	if run() != run() {
		t.Error("the same calls answered otherwise")
	}
}

// P16.1: many buffers, each of which waits for more.
func TestManyBuffers(t *testing.T) {
	const n = 100000
	j := table(t, n, 8*n, 60)
	for i := range n {
		if _, _, _, e := j.Add(fmt.Sprint(i), 0, true, []byte(eight), "", i); e != api.OK {
			t.Fatalf("Add(%d) = %d", i, e)
		}
	}
	play(t, "one more", j, []call{
		{key: "more", want: api.ErrFull},
		{key: "7", off: 8, b: ending, want: api.ErrFull},
	})
	if j.Bufs() != n || j.Bytes() != 8*n || len(j.Expire(n/2+59)) != n/2 || j.Bufs() != n/2 || j.Bytes() != 4*n {
		t.Errorf("%d buffers, %d bytes", j.Bufs(), j.Bytes())
	}
}
