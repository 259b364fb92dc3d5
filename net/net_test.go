package net_test

import (
	"bytes"
	"math"
	"math/rand/v2"
	"reflect"
	"slices"
	"testing"

	"goosepond/api"
	"goosepond/net"
)

// made is a network with room for so many.
func made(t *testing.T, most int) *net.Net {
	t.Helper()
	n, e := net.New(most)
	if e != api.OK || n == nil {
		t.Fatalf("New(%d) = %v, %d", most, n, e)
	}
	return n
}

// item is one with these bytes.
func item(s string) net.Item {
	return net.Item{B4: len(s), Up: len(s)%2 == 0, Bytes: []byte(s)}
}

// puts puts items with these bytes.
func puts(t *testing.T, n *net.Net, l ...string) {
	t.Helper()
	for _, s := range l {
		if e := n.Put(item(s)); e != api.OK {
			t.Fatalf("Put(%q) = %d", s, e)
		}
	}
}

func same(a, b net.Item) bool {
	return a.B4 == b.B4 && a.Up == b.Up && bytes.Equal(a.Bytes, b.Bytes)
}

// has fails unless these are on their way, by all that tells.
func has(t *testing.T, n *net.Net, want ...net.Item) {
	t.Helper()
	if got := slices.Collect(n.All()); !slices.EqualFunc(got, want, same) {
		t.Errorf("All = %v; want %v", got, want)
	}
	if n.Len() != len(want) {
		t.Errorf("Len = %d; want %d", n.Len(), len(want))
	}
	for i, x := range want {
		if got, ok := n.Look(i); !same(got, x) || !ok {
			t.Errorf("Look(%d) = %v, %v; want %v", i, got, ok, x)
		}
	}
}

// P34.1: how many there may be.
func TestNew(t *testing.T) {
	for _, c := range []struct {
		most int
		want api.Errno
	}{
		{0, api.OK}, {1, api.OK}, {64, api.OK}, {4096, api.OK},
		{-1, api.ErrArg}, {4097, api.ErrArg}, {math.MinInt, api.ErrArg}, {math.MaxInt, api.ErrArg},
	} {
		n, e := net.New(c.most)
		if e != c.want || (n == nil) != (e != api.OK) {
			t.Errorf("New(%d) = %v, %d; want %d", c.most, n, e, c.want)
		}
		if e == api.OK {
			has(t, n)
		}
	}
}

// P34.1: what may be put, and which error goes first.
func TestPut(t *testing.T) {
	n := made(t, 2)
	long := make([]byte, 65535+41)
	for _, c := range []struct {
		name string
		x    net.Item
		want api.Errno
	}{
		{"no B4", net.Item{B4: -1}, api.ErrArg},
		{"a B4 that there is not", net.Item{B4: 64}, api.ErrArg},
		{"the least B4", net.Item{B4: math.MinInt}, api.ErrArg},
		{"the greatest B4", net.Item{B4: math.MaxInt}, api.ErrArg},
		{"too long, of no B4", net.Item{B4: 64, Bytes: long}, api.ErrArg},
		{"too long", net.Item{Bytes: long}, api.ErrLong},
		{"the longest, of the last B4", net.Item{B4: 63, Up: true, Bytes: long[1:]}, api.OK},
		{"no bytes, of the first B4", net.Item{}, api.OK},
		{"one too many", net.Item{}, api.ErrFull},
		{"one too many, too long", net.Item{Bytes: long}, api.ErrLong},
		{"one too many, of no B4", net.Item{B4: -1}, api.ErrArg},
	} {
		if e := n.Put(c.x); e != c.want {
			t.Errorf("%s: Put = %d; want %d", c.name, e, c.want)
		}
	}
	has(t, n, net.Item{B4: 63, Up: true, Bytes: long[1:]}, net.Item{})
	if e := made(t, 0).Put(net.Item{}); e != api.ErrFull {
		t.Errorf("without room: Put = %d", e)
	}
	full := made(t, 4096)
	for i := range 4097 {
		want := api.OK
		if i == 4096 {
			want = api.ErrFull
		}
		if e := full.Put(net.Item{}); e != want {
			t.Fatalf("Put = %d; want %d", e, want)
		}
	}
}

// P34.1, the chapter's example: what is taken is gone, and the others stay in their order.
func TestTake(t *testing.T) {
	n := made(t, 5)
	puts(t, n, "a", "bb", "ccc")
	for _, want := range []string{"bb", "ccc"} {
		if x, ok := n.Take(1); !same(x, item(want)) || !ok {
			t.Errorf("Take(1) = %v, %v; want %q", x, ok, want)
		}
	}
	has(t, n, item("a"))
	puts(t, n, "dddd", "eeeee")
	has(t, n, item("a"), item("dddd"), item("eeeee"))
	for _, want := range []string{"a", "dddd", "eeeee"} {
		if x, ok := n.Take(0); !same(x, item(want)) || !ok {
			t.Errorf("Take(0) = %v, %v; want %q", x, ok, want)
		}
	}
	has(t, n)
}

// P34.1: places are counted round, from 0 on.
func TestPlaces(t *testing.T) {
	for at, want := range map[int]string{
		0: "a", 1: "bb", 2: "ccc", 3: "a", 4: "bb", 300: "a", -1: "ccc", -2: "bb", -3: "a", -4: "ccc",
		math.MaxInt: "bb", math.MinInt: "bb", math.MinInt + 1: "ccc",
	} {
		n := made(t, 3)
		puts(t, n, "a", "bb", "ccc")
		if x, ok := n.Look(at); !same(x, item(want)) || !ok {
			t.Errorf("Look(%d) = %v, %v; want %q", at, x, ok, want)
		}
		has(t, n, item("a"), item("bb"), item("ccc"))
		if x, ok := n.Take(at); !same(x, item(want)) || !ok {
			t.Errorf("Take(%d) = %v, %v; want %q", at, x, ok, want)
		}
		if n.Len() != 2 {
			t.Errorf("Len = %d", n.Len())
		}
	}
}

// P34.1: where there is none.
func TestNone(t *testing.T) {
	n := made(t, 3)
	empty := func() {
		t.Helper()
		for _, at := range []int{0, 1, -1, math.MinInt, math.MaxInt} {
			if x, ok := n.Look(at); !reflect.DeepEqual(x, net.Item{}) || ok {
				t.Errorf("Look(%d) = %v, %v", at, x, ok)
			}
			if x, ok := n.Take(at); !reflect.DeepEqual(x, net.Item{}) || ok {
				t.Errorf("Take(%d) = %v, %v", at, x, ok)
			}
		}
		has(t, n)
	}
	empty()
	puts(t, n, "a")
	n.Take(7)
	empty()
}

// R7: an iterator tells the same twice; who ends it early is told no more.
func TestAll(t *testing.T) {
	n := made(t, 3)
	puts(t, n, "a", "bb", "ccc")
	all := n.All()
	for range 2 {
		var got []string
		for x := range all {
			got = append(got, string(x.Bytes))
		}
		if !slices.Equal(got, []string{"a", "bb", "ccc"}) {
			t.Errorf("All = %q", got)
		}
	}
	many := 0
	for range all {
		many++
		if many == 2 {
			break
		}
	}
	if many != 2 {
		t.Errorf("told %d", many)
	}
	x, _ := n.Take(0)
	clear(x.Bytes)
	puts(t, n, "dddd")
	var got []string
	for x := range all {
		got = append(got, string(x.Bytes))
	}
	if !slices.Equal(got, []string{"a", "bb", "ccc"}) {
		t.Errorf("All, as it was = %q", got)
	}
}

// R5, P34.1: of what no call made.
func TestNotMade(t *testing.T) {
	for _, n := range []*net.Net{nil, {}} {
		for _, x := range []net.Item{{}, {B4: -1}, {Bytes: make([]byte, 65576)}} {
			if e := n.Put(x); e != api.ErrNil {
				t.Errorf("Put = %d", e)
			}
		}
		if x, ok := n.Take(0); !reflect.DeepEqual(x, net.Item{}) || ok {
			t.Errorf("Take = %v, %v", x, ok)
		}
		if x, ok := n.Look(0); !reflect.DeepEqual(x, net.Item{}) || ok {
			t.Errorf("Look = %v, %v", x, ok)
		}
		has(t, n)
	}
}

// R3: nothing that is handed in is kept or changed, and nothing that is answered is shared.
func TestSharesNothing(t *testing.T) {
	n := made(t, 2)
	b := []byte("abcdefgh")
	n.Put(net.Item{B4: 1, Bytes: b[:4]})
	if string(b) != "abcdefgh" {
		t.Errorf("what was handed in is %q", b)
	}
	clear(b)
	want := net.Item{B4: 1, Bytes: []byte("abcd")}
	has(t, n, want)
	x, _ := n.Look(0)
	clear(x.Bytes[:cap(x.Bytes)])
	has(t, n, want)
	for x := range n.All() {
		clear(x.Bytes[:cap(x.Bytes)])
	}
	has(t, n, want)
	n.Put(net.Item{B4: 2, Bytes: []byte("xyz")})
	x, _ = n.Take(0)
	clear(x.Bytes[:cap(x.Bytes)])
	has(t, n, net.Item{B4: 2, Bytes: []byte("xyz")})
}

// P34.2: what is taken was put, and as often, against a list that is looked through.
func TestRandom(t *testing.T) {
	for seed := range uint64(30) {
		d := rand.New(rand.NewPCG(seed, 34))
		most := d.IntN(12)
		n := made(t, most)
		var l []net.Item
		put, taken := map[string]int{}, map[string]int{}
		for range 300 {
			x := net.Item{B4: d.IntN(64), Up: d.IntN(2) == 0, Bytes: []byte{byte(d.IntN(4)), byte(d.IntN(4))}}
			at := d.IntN(40) - 20
			if d.IntN(2) == 0 {
				want := api.OK
				if len(l) == most {
					want = api.ErrFull
				} else {
					l = append(l, x)
					put[string(x.Bytes)]++
				}
				if e := n.Put(x); e != want {
					t.Fatalf("Put = %d; want %d", e, want)
				}
			} else if x, ok := n.Take(at); len(l) == 0 {
				if ok || !reflect.DeepEqual(x, net.Item{}) {
					t.Fatalf("Take = %v, %v", x, ok)
				}
			} else {
				i := at
				for i < 0 {
					i += len(l)
				}
				i %= len(l)
				if !ok || !same(x, l[i]) {
					t.Fatalf("Take(%d) = %v, %v; want %v", at, x, ok, l[i])
				}
				taken[string(x.Bytes)]++
				l = append(l[:i:i], l[i+1:]...)
			}
			has(t, n, l...)
		}
		for x := range n.All() {
			taken[string(x.Bytes)]++
		}
		if !reflect.DeepEqual(put, taken) {
			t.Errorf("put %v, taken or left %v", put, taken)
		}
	}
}
