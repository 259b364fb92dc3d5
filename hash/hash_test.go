package hash_test

import (
	"fmt"
	"iter"
	"maps"
	"math"
	"math/rand/v2"
	"slices"
	"strings"
	"testing"

	"goosepond/api"
	"goosepond/hash"
)

const mostKeys = 1 << 16

// pair is a key, and what it has.
type pair struct {
	key string
	n   int
}

// made is New of what may be.
func made(t *testing.T, most int) *hash.Table {
	t.Helper()
	h, e := hash.New(most)
	if e != api.OK || h == nil {
		t.Fatalf("New(%d) = %v, %d", most, h, e)
	}
	return h
}

// put puts one behind the other, all of which must be taken.
func put(t *testing.T, h *hash.Table, l ...pair) {
	t.Helper()
	for _, p := range l {
		if e := h.Put(p.key, p.n); e != api.OK {
			t.Fatalf("Put(%q, %d) = %d", p.key, p.n, e)
		}
	}
}

// told are the pairs that an iterator goes through.
func told(all iter.Seq2[string, int]) (l []pair) {
	for key, n := range all {
		l = append(l, pair{key, n})
	}
	return l
}

// has fails unless these pairs are there, as All tells them.
func has(t *testing.T, name string, h *hash.Table, l ...pair) {
	t.Helper()
	if all := told(h.All()); h.Len() != len(l) || !slices.Equal(all, l) {
		t.Errorf("%s: Len = %d, All = %v; want %v", name, h.Len(), all, l)
	}
	for _, p := range l {
		if n, ok := h.Get(p.key); n != p.n || !ok {
			t.Errorf("%s: Get(%q) = %d, %v; want %d", name, p.key, n, ok, p.n)
		}
	}
}

// lacks fails if one of these keys is there.
func lacks(t *testing.T, name string, h *hash.Table, keys ...string) {
	t.Helper()
	for _, key := range keys {
		if n, ok := h.Get(key); n != 0 || ok {
			t.Errorf("%s: Get(%q) = %d, %v", name, key, n, ok)
		}
		if h.Delete(key) {
			t.Errorf("%s: Delete(%q) = true", name, key)
		}
	}
}

// P18.1: the chapter's example.
func TestExample(t *testing.T) {
	h := made(t, 1)
	put(t, h, pair{"a", 1})
	if e := h.Put("b", 2); e != api.ErrFull {
		t.Errorf("Put = %d", e)
	}
	has(t, "example 1", h, pair{"a", 1})
	lacks(t, "example 1", h, "b")
}

// P18.1: what New takes, and what it refuses.
func TestNew(t *testing.T) {
	for _, c := range []struct {
		most int
		want api.Errno
	}{
		{0, api.OK},
		{1, api.OK},
		{mostKeys, api.OK},
		{-1, api.ErrArg},
		{mostKeys + 1, api.ErrArg},
		{math.MinInt, api.ErrArg},
		{math.MaxInt, api.ErrArg},
	} {
		h, e := hash.New(c.most)
		if e != c.want || (h == nil) != (e != api.OK) {
			t.Errorf("New(%d) = %v, %d; want %d", c.most, h, e, c.want)
		}
		if e == api.OK {
			has(t, "a new one", h)
			lacks(t, "a new one", h, "", "a")
		}
	}
}

// P18.1: what Put says, and what is there afterwards.
func TestPut(t *testing.T) {
	a := []pair{{"a", 1}}
	for _, c := range []struct {
		name  string
		most  int
		there []pair
		key   string
		n     int
		want  api.Errno
		all   []pair
	}{
		{"the first one", 1, nil, "a", 1, api.OK, a},
		{"the empty text", 1, nil, "", 5, api.OK, []pair{{"", 5}}},
		{"has 0", 1, nil, "a", 0, api.OK, []pair{{"a", 0}}},
		{"has the least", 1, nil, "a", math.MinInt, api.OK, []pair{{"a", math.MinInt}}},
		{"has the greatest", 1, nil, "a", math.MaxInt, api.OK, []pair{{"a", math.MaxInt}}},
		{"none may be", 0, nil, "a", 1, api.ErrFull, nil},
		{"none may be, the empty text", 0, nil, "", 1, api.ErrFull, nil},
		{"one too many", 1, a, "b", 2, api.ErrFull, a},
		{"one too many, the empty text", 1, a, "", 2, api.ErrFull, a},
		{"the last one that may be", 2, a, "b", 2, api.OK, []pair{{"a", 1}, {"b", 2}}},
		{"another number, where it is full", 1, a, "a", 7, api.OK, []pair{{"a", 7}}},
		{"0, where it was another", 2, a, "a", 0, api.OK, []pair{{"a", 0}}},
		{"the same again", 2, a, "a", 1, api.OK, a},
		{"longer by a zero", 2, a, "a\x00", 2, api.OK, []pair{{"a", 1}, {"a\x00", 2}}},
		{"a great letter", 2, a, "A", 2, api.OK, []pair{{"A", 2}, {"a", 1}}},
	} {
		h := made(t, c.most)
		put(t, h, c.there...)
		if e := h.Put(c.key, c.n); e != c.want {
			t.Errorf("%s: Put(%q, %d) = %d; want %d", c.name, c.key, c.n, e, c.want)
		}
		has(t, c.name, h, c.all...)
	}
}

// P18.1: who is deleted is there no more, and makes room.
func TestDelete(t *testing.T) {
	h := made(t, 2)
	put(t, h, pair{"a", 1}, pair{"b", 2})
	lacks(t, "others", h, "", "c", "ab", "a\x00")
	has(t, "others", h, pair{"a", 1}, pair{"b", 2})
	if !h.Delete("a") {
		t.Error("Delete of what is there")
	}
	lacks(t, "deleted", h, "a")
	has(t, "deleted", h, pair{"b", 2})
	put(t, h, pair{"c", 3})
	if e := h.Put("a", 4); e != api.ErrFull {
		t.Errorf("Put of one too many = %d", e)
	}
	if !h.Delete("b") || !h.Delete("c") {
		t.Error("Delete of what is there")
	}
	has(t, "all deleted", h)
	put(t, h, pair{"a", 5}, pair{"", 6})
	has(t, "anew", h, pair{"", 6}, pair{"a", 5})
	if !h.Delete("") {
		t.Error("Delete of the empty text")
	}
	has(t, "without the empty text", h, pair{"a", 5})
}

// P18.1, R4, R6, R7: keys rise as bytes do, whatever order they came in; who asks twice is told the same twice, who ends early no more.
func TestAll(t *testing.T) {
	r := rand.New(rand.NewPCG(18, 1))
	var want []pair
	for i, key := range []string{"", "\x00", "\x00\x00", "\x00\xff", "A", "B", "a", "a\x00", "aa", "ab", "b", "é", "日", "\xc3", "\xff", "\xff\x00"} {
		want = append(want, pair{key, i})
	}
	slices.SortFunc(want, func(p, q pair) int { return strings.Compare(p.key, q.key) })
	for range 20 {
		h := made(t, 100)
		for _, i := range r.Perm(len(want)) {
			put(t, h, want[i])
		}
		has(t, "rising", h, want...)
		all := h.All()
		for range 2 {
			if l := told(all); !slices.Equal(l, want) {
				t.Errorf("All = %v; want %v", l, want)
			}
		}
		n := 0
		for key, has := range all {
			if key != want[n].key || has != want[n].n {
				t.Errorf("All = %q, %d; want %v", key, has, want[n])
			}
			if n++; n == 4 {
				break
			}
		}
		if n != 4 {
			t.Errorf("All told %d", n)
		}
	}
	if l := told(made(t, 10).All()); len(l) != 0 {
		t.Errorf("All = %v of an empty one", l)
	}
}

// P18.1, R5: of what no call made there is nothing.
func TestNotMade(t *testing.T) {
	refused, _ := hash.New(-1)
	for name, h := range map[string]*hash.Table{"nil": nil, "zero": {}, "refused": refused} {
		for _, key := range []string{"", "a"} {
			if e := h.Put(key, 1); e != api.ErrNil {
				t.Errorf("%s: Put(%q) = %d", name, key, e)
			}
			lacks(t, name, h, key)
		}
		has(t, name, h)
		if told(h.All()) != nil || told(h.All()) != nil {
			t.Errorf("%s: All told something", name)
		}
	}
}

// R3: two tables have nothing in common, and what is told is no part of a table.
func TestSharesNothing(t *testing.T) {
	h, g := made(t, 10), made(t, 10)
	put(t, h, pair{"a", 1}, pair{"b", 2})
	put(t, g, pair{"a", 3})
	l := told(h.All())
	l[0].n, l[1].key = 7, "c"
	has(t, "changed", h, pair{"a", 1}, pair{"b", 2})
	h.Delete("a")
	has(t, "the other one", g, pair{"a", 3})
}

// model is what a table has, as a map of the language has it.
type model map[string]int

func (m model) pairs() (l []pair) {
	for _, key := range slices.Sorted(maps.Keys(m)) {
		l = append(l, pair{key, m[key]})
	}
	return l
}

func (m model) put(most int, key string, n int) api.Errno {
	if _, there := m[key]; !there && len(m) == most {
		return api.ErrFull
	}
	m[key] = n
	return api.OK
}

func (m model) delete(key string) bool {
	_, there := m[key]
	delete(m, key)
	return there
}

// P18.2: whatever was put and deleted ahead, a key has what it was put last.
func TestMany(t *testing.T) {
	r := rand.New(rand.NewPCG(18, 2))
	for range 200 {
		most, m := r.IntN(70), model{}
		h, keys, deletes := made(t, most), 1+r.IntN(100), 1+r.IntN(8)
		for step := range 400 {
			key := keyOf(r.IntN(keys))
			if r.IntN(10) < deletes {
				if got, want := h.Delete(key), m.delete(key); got != want {
					t.Fatalf("Delete(%q) = %v; want %v", key, got, want)
				}
			} else {
				if got, want := h.Put(key, step), m.put(most, key, step); got != want {
					t.Fatalf("Put(%q, %d) = %d; want %d", key, step, got, want)
				}
			}
			has(t, "many", h, m.pairs()...)
			for i := range keys {
				n, there := m[keyOf(i)]
				if got, ok := h.Get(keyOf(i)); got != n || ok != there {
					t.Fatalf("Get(%q) = %d, %v; want %d, %v", keyOf(i), got, ok, n, there)
				}
			}
			if t.Failed() {
				t.FailNow()
			}
		}
	}
}

// keyOf is the i-th key: texts of all lengths and bytes.
func keyOf(i int) string {
	switch i % 4 {
	case 0:
		return strings.Repeat("a", i/4)
	case 1:
		return string([]byte{byte(i), byte(i >> 2), 0, 255})
	case 2:
		return strings.Repeat("\x00", i/4+1)
	}
	return fmt.Sprint("10.0.0.1:", i)
}

// P18.1, P18.2: as many as may be; all deleted, in another order; and others in their place.
func TestGreat(t *testing.T) {
	h := made(t, mostKeys)
	for round := range 3 {
		key := func(i int) string { return fmt.Sprint(round, ":", i) }
		for i := range mostKeys {
			put(t, h, pair{key(i), i})
		}
		if e := h.Put("one more", 1); e != api.ErrFull || h.Len() != mostKeys {
			t.Errorf("Put of one too many = %d, Len = %d", e, h.Len())
		}
		if e := h.Put(key(5), -5); e != api.OK {
			t.Errorf("Put of what is there = %d", e)
		}
		for i := range mostKeys {
			i = (i*7919 + 5) % mostKeys
			want := i
			if i == 5 {
				want = -5
			}
			if n, ok := h.Get(key(i)); n != want || !ok || !h.Delete(key(i)) {
				t.Fatalf("Get(%q) = %d, %v; want %d", key(i), n, ok, want)
			}
		}
		has(t, "all deleted", h)
	}
}

// P18.1: keys that come and go do not fill a table, nor make it slow.
func TestComeAndGo(t *testing.T) {
	h := made(t, 3)
	put(t, h, pair{"stays", 1})
	for i := range 1000000 {
		key := string([]byte{byte(i), byte(i >> 8), byte(i >> 16)})
		if e := h.Put(key, i); e != api.OK || !h.Delete(key) {
			t.Fatalf("Put(%q) = %d", key, e)
		}
	}
	has(t, "stays", h, pair{"stays", 1})
}

// P18.1: two texts of which FNV-1a makes the same number of 64 bits are two keys.
func TestAlikeMarks(t *testing.T) {
	const one, other = "8yn0iYCKYHlIj4-BwPqk", "GReLUrM4wMqfg9yzV3KQ"
	h := made(t, 3)
	put(t, h, pair{one, 1})
	lacks(t, "one alone", h, other)
	put(t, h, pair{other, 2}, pair{one, 3})
	has(t, "both", h, pair{one, 3}, pair{other, 2})
	if !h.Delete(one) {
		t.Error("Delete of what is there")
	}
	lacks(t, "the other alone", h, one)
	has(t, "the other alone", h, pair{other, 2})
}

// P18.1: a key may be long.
func TestLongKeys(t *testing.T) {
	long := strings.Repeat("goosepond", 100000)
	h := made(t, 3)
	put(t, h, pair{long, 1}, pair{long + "a", 2}, pair{"a" + long, 3})
	has(t, "long", h, pair{"a" + long, 3}, pair{long, 1}, pair{long + "a", 2})
	if !h.Delete(long) {
		t.Error("Delete of a long key")
	}
	lacks(t, "long", h, long, long[1:])
	has(t, "long", h, pair{"a" + long, 3}, pair{long + "a", 2})
}

// R4: the same calls answer the same.
func TestSameTwice(t *testing.T) {
	run := func() string {
		r, h := rand.New(rand.NewPCG(18, 3)), made(t, 30)
		text := ""
		for i := range 500 {
			n, ok := h.Get(keyOf(r.IntN(50)))
			text += fmt.Sprintln(h.Put(keyOf(r.IntN(50)), i), h.Delete(keyOf(r.IntN(50))), n, ok, told(h.All()))
		}
		return text
	}
	if run() != run() {
		t.Error("the same calls answered otherwise")
	}
}
