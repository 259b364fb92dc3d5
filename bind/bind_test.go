package bind_test

import (
	"iter"
	"math"
	"math/rand/v2"
	"testing"

	"goosepond/api"
	"goosepond/bind"
)

// binding is one by small numbers: what it has within, and without.
func binding(in, out int) api.Binding {
	return api.Binding{
		Inner: api.Inner{Softwire: in % 3, Proto: 17, Addr: 0x0A000001 + in/3%2, Port: 5000 + in/6},
		Outer: api.Outer{Proto: 17, Addr: 0xC6336401 + out%2, Port: 5000 + out/2},
	}
}

// made is New of what may be.
func made(t *testing.T, most int) *bind.DB {
	t.Helper()
	d, e := bind.New(most)
	if e != api.OK || d == nil {
		t.Fatalf("New(%d) = %v, %d", most, d, e)
	}
	return d
}

// add adds b, and fails unless it becomes number id.
func add(t *testing.T, d *bind.DB, b api.Binding, id int) {
	t.Helper()
	if got, e := d.Add(b); got != id || e != api.OK {
		t.Fatalf("Add(%v) = %d, %d; want %d", b, got, e, id)
	}
}

// refuses fails unless Add answers this error, and nothing beside it.
func refuses(t *testing.T, d *bind.DB, b api.Binding, e api.Errno) {
	t.Helper()
	if got, f := d.Add(b); got != 0 || f != e {
		t.Errorf("Add(%v) = %d, %d; want %d", b, got, f, e)
	}
}

// numbered is a binding and its number.
type numbered struct {
	id int
	b  api.Binding
}

// told is what an iterator tells.
func told(all iter.Seq2[int, api.Binding]) (l []numbered) {
	for id, b := range all {
		l = append(l, numbered{id, b})
	}
	return l
}

// holds fails unless these, by rising numbers, are all that there are, from whatever side they are looked for.
func holds(t *testing.T, d *bind.DB, l ...numbered) {
	t.Helper()
	if n := d.Len(); n != len(l) {
		t.Errorf("Len = %d; want %d", n, len(l))
	}
	all := told(d.All())
	if len(all) != len(l) {
		t.Fatalf("All tells %v; want %v", all, l)
	}
	for i, x := range l {
		if all[i] != x {
			t.Errorf("All tells %v at %d; want %v", all[i], i, x)
		}
		if b, ok := d.Get(x.id); b != x.b || !ok {
			t.Errorf("Get(%d) = %v, %t; want %v", x.id, b, ok, x.b)
		}
		if id, ok := d.Find(x.b.Inner); id != x.id || !ok {
			t.Errorf("Find(%v) = %d, %t; want %d", x.b.Inner, id, ok, x.id)
		}
		if id, ok := d.Back(x.b.Outer); id != x.id || !ok {
			t.Errorf("Back(%v) = %d, %t; want %d", x.b.Outer, id, ok, x.id)
		}
	}
}

// lacks fails if there is one with this number, or with a side of b.
func lacks(t *testing.T, d *bind.DB, id int, b api.Binding) {
	t.Helper()
	if got, ok := d.Get(id); got != (api.Binding{}) || ok {
		t.Errorf("Get(%d) = %v, %t", id, got, ok)
	}
	if got, ok := d.Find(b.Inner); got != 0 || ok {
		t.Errorf("Find(%v) = %d, %t", b.Inner, got, ok)
	}
	if got, ok := d.Back(b.Outer); got != 0 || ok {
		t.Errorf("Back(%v) = %d, %t", b.Outer, got, ok)
	}
	if d.Remove(id) {
		t.Errorf("Remove(%d) took one out", id)
	}
}

// P22.1: the chapter's example.
func TestExample(t *testing.T) {
	d := made(t, 2)
	add(t, d, binding(0, 0), 0)
	add(t, d, binding(1, 1), 1)
	if !d.Remove(0) {
		t.Error("Remove(0) found none")
	}
	add(t, d, binding(2, 2), 0)
	holds(t, d, numbered{0, binding(2, 2)}, numbered{1, binding(1, 1)})
}

// P22.1: how many there may be.
func TestNew(t *testing.T) {
	for _, c := range []struct {
		most int
		e    api.Errno
	}{
		{0, api.OK},
		{1, api.OK},
		{4096, api.OK},
		{-1, api.ErrArg},
		{4097, api.ErrArg},
		{math.MinInt, api.ErrArg},
		{math.MaxInt, api.ErrArg},
	} {
		d, e := bind.New(c.most)
		if e != c.e || (d != nil) != (e == api.OK) {
			t.Errorf("New(%d) = %v, %d; want %d", c.most, d, e, c.e)
		}
		if e == api.OK {
			holds(t, d)
		}
	}
}

// P22.1: where no room is, and what is there already, which is told ahead of it.
func TestFull(t *testing.T) {
	d := made(t, 0)
	refuses(t, d, binding(0, 0), api.ErrFull)
	refuses(t, d, api.Binding{}, api.ErrFull)
	holds(t, d)

	d = made(t, 2)
	add(t, d, binding(0, 0), 0)
	refuses(t, d, binding(0, 0), api.ErrTwice)
	add(t, d, binding(1, 1), 1)
	refuses(t, d, binding(2, 2), api.ErrFull)
	refuses(t, d, binding(0, 2), api.ErrTwice)
	refuses(t, d, binding(2, 1), api.ErrTwice)
	holds(t, d, numbered{0, binding(0, 0)}, numbered{1, binding(1, 1)})
	d.Remove(1)
	add(t, d, binding(2, 2), 1)
	refuses(t, d, binding(3, 3), api.ErrFull)
}

// P22.1: as many as there may ever be.
func TestMost(t *testing.T) {
	const most = 4096
	d := made(t, most)
	var l []numbered
	for i := range most {
		add(t, d, binding(i, i), i)
		l = append(l, numbered{i, binding(i, i)})
	}
	refuses(t, d, binding(most, most), api.ErrFull)
	holds(t, d, l...)
	for i := 0; i < most; i += 7 {
		if !d.Remove(i) {
			t.Fatalf("Remove(%d) found none", i)
		}
	}
	for i := 0; i < most; i += 7 {
		add(t, d, binding(most+i, most+i), i)
		l[i].b = binding(most+i, most+i)
	}
	refuses(t, d, binding(0, 0), api.ErrFull)
	holds(t, d, l...)
}

// P22.1, P22.2: one side in common is too much, whatever the other one is, and whether or not it is static.
func TestTwice(t *testing.T) {
	d := made(t, 9)
	add(t, d, binding(0, 0), 0)
	add(t, d, binding(1, 1), 1)
	static := binding(0, 0)
	static.Static = true
	for _, b := range []api.Binding{
		binding(0, 0), binding(0, 1), binding(1, 0), binding(0, 9), binding(9, 0), binding(1, 9), binding(9, 1), static,
	} {
		refuses(t, d, b, api.ErrTwice)
	}
	lacks(t, d, 2, binding(9, 9))
	holds(t, d, numbered{0, binding(0, 0)}, numbered{1, binding(1, 1)})
	d.Remove(0)
	add(t, d, static, 0)
	holds(t, d, numbered{0, static}, numbered{1, binding(1, 1)})
}

// P22.1, P22.2: sides that differ in one number only are others, whatever their numbers are.
func TestApart(t *testing.T) {
	inners := []api.Inner{
		{},
		{Softwire: 1}, {Proto: 1}, {Addr: 1}, {Port: 1},
		{Softwire: -1}, {Proto: -1}, {Addr: -1}, {Port: -1},
		{Softwire: 1, Proto: 1}, {Softwire: 11}, {Proto: 11}, {Addr: 11}, {Port: 11},
		{Softwire: 1, Proto: 12}, {Softwire: 11, Proto: 2}, {Softwire: 112},
		{Softwire: 256}, {Softwire: 1 << 32}, {Port: 65536}, {Addr: 1 << 32}, {Proto: 256},
		{Softwire: math.MaxInt}, {Softwire: math.MinInt}, {Port: math.MinInt}, {Port: math.MaxInt}, {Addr: math.MinInt}, {Proto: math.MinInt},
		{Proto: 17, Addr: 0x0A000001, Port: 5000}, {Proto: 6, Addr: 0x0A000001, Port: 5000},
		{Proto: 17, Addr: 0x0A000002, Port: 5000}, {Proto: 17, Addr: 0x0A000001, Port: 5001},
		{Softwire: 1, Proto: 17, Addr: 0x0A000001, Port: 5000},
	}
	outers := []api.Outer{
		{},
		{Proto: 1}, {Addr: 1}, {Port: 1},
		{Proto: -1}, {Addr: -1}, {Port: -1},
		{Proto: 1, Addr: 1}, {Proto: 11}, {Addr: 11}, {Port: 11},
		{Proto: 1, Addr: 12}, {Proto: 11, Addr: 2}, {Proto: 112},
		{Proto: 256}, {Port: 65536}, {Addr: 1 << 32},
		{Proto: math.MaxInt}, {Proto: math.MinInt}, {Port: math.MinInt}, {Port: math.MaxInt}, {Addr: math.MinInt},
		{Proto: 17, Addr: 0xC6336401, Port: 5000}, {Proto: 6, Addr: 0xC6336401, Port: 5000},
		{Proto: 17, Addr: 0xC6336402, Port: 5000}, {Proto: 17, Addr: 0xC6336401, Port: 5001},
	}
	d := made(t, 100)
	var l []numbered
	for i, in := range inners {
		b := api.Binding{Inner: in, Outer: api.Outer{Proto: 99, Addr: 99, Port: i}}
		add(t, d, b, i)
		l = append(l, numbered{i, b})
	}
	holds(t, d, l...)
	d, l = made(t, 100), nil
	for i, out := range outers {
		b := api.Binding{Inner: api.Inner{Proto: 99, Addr: 99, Port: i}, Outer: out}
		add(t, d, b, i)
		l = append(l, numbered{i, b})
	}
	holds(t, d, l...)
	for i, x := range l {
		if !d.Remove(x.id) {
			t.Errorf("Remove(%d) found none", x.id)
		}
		lacks(t, d, x.id, x.b)
		holds(t, d, l[i+1:]...)
	}
}

// P22.1: numbers that none has.
func TestNone(t *testing.T) {
	d := made(t, 8)
	for _, id := range []int{0, 1, -1, 8, math.MinInt, math.MaxInt} {
		lacks(t, d, id, binding(0, 0))
	}
	add(t, d, binding(0, 0), 0)
	add(t, d, binding(1, 1), 1)
	add(t, d, binding(2, 2), 2)
	for _, id := range []int{3, 7, 8, -1, math.MinInt, math.MaxInt} {
		lacks(t, d, id, binding(3, 3))
	}
	if !d.Remove(1) || d.Remove(1) {
		t.Error("Remove(1) twice: not yes, no")
	}
	lacks(t, d, 1, binding(1, 1))
	holds(t, d, numbered{0, binding(0, 0)}, numbered{2, binding(2, 2)})
}

// P22.1: the least number that is free, whatever was taken out, and in whatever order.
func TestLeast(t *testing.T) {
	d := made(t, 9)
	for i := range 6 {
		add(t, d, binding(i, i), i)
	}
	for _, id := range []int{4, 1, 5, 3} {
		d.Remove(id)
	}
	for i, id := range []int{1, 3, 4, 5, 6} {
		add(t, d, binding(10+i, 10+i), id)
	}
	d.Remove(0)
	add(t, d, binding(20, 20), 0)
	add(t, d, binding(21, 21), 7)
	d.Remove(7)
	d.Remove(6)
	add(t, d, binding(22, 22), 6)
	add(t, d, binding(23, 23), 7)
	for id := range 8 {
		d.Remove(id)
	}
	holds(t, d)
	add(t, d, binding(0, 0), 0)
}

// P22.1, R5: what no call made.
func TestNotMade(t *testing.T) {
	refused, _ := bind.New(-1)
	for _, d := range []*bind.DB{nil, {}, refused} {
		refuses(t, d, binding(0, 0), api.ErrNil)
		refuses(t, d, api.Binding{}, api.ErrNil)
		lacks(t, d, 0, api.Binding{})
		holds(t, d)
	}
}

// R7: who asks twice is told the same twice, who ends early no more; what is told is what was there when it was asked for.
func TestIterator(t *testing.T) {
	d := made(t, 9)
	for i := range 4 {
		add(t, d, binding(i, i), i)
	}
	d.Remove(2)
	all := d.All()
	for range 2 {
		if l := told(all); len(l) != 3 || l[0].id != 0 || l[1].id != 1 || l[2].id != 3 {
			t.Errorf("All tells %v", l)
		}
	}
	for most := 1; most <= 3; most++ {
		asked := 0
		all(func(int, api.Binding) bool {
			asked++
			return asked < most
		})
		if asked != most {
			t.Errorf("who ends at %d is asked %d times", most, asked)
		}
	}
	d.Remove(0)
	add(t, d, binding(7, 7), 0)
	if l := told(all); len(l) != 3 || l[0].b != binding(0, 0) {
		t.Errorf("All tells %v of what is there no more", l)
	}
}

// P22.1, P22.2, R1, R2, R4: two of them against a map, with what is refused among it.
func TestRandom(t *testing.T) {
	r := rand.New(rand.NewPCG(22, 1))
	for range 60 {
		most, sides := r.IntN(12), 2+r.IntN(14)
		d, same := made(t, most), made(t, most)
		has := map[int]api.Binding{}
		for range 150 {
			if id := r.IntN(most+3) - 1; r.IntN(5) < 2 {
				_, there := has[id]
				if d.Remove(id) != there || same.Remove(id) != there {
					t.Fatalf("Remove(%d) is not %t", id, there)
				}
				delete(has, id)
			} else {
				b := binding(r.IntN(sides), r.IntN(sides))
				b.Static = r.IntN(2) == 0
				id, want := expected(has, most, b)
				if got, e := d.Add(b); got != id || e != want {
					t.Fatalf("Add(%v) = %d, %d; want %d, %d", b, got, e, id, want)
				}
				same.Add(b)
				if want == api.OK {
					has[id] = b
				}
			}
			var l []numbered
			for id := range most {
				if b, ok := has[id]; ok {
					l = append(l, numbered{id, b})
				}
			}
			holds(t, d, l...)
			holds(t, same, l...)
		}
	}
}

// expected is what Add of b answers where these are.
func expected(has map[int]api.Binding, most int, b api.Binding) (int, api.Errno) {
	for _, x := range has {
		if x.Inner == b.Inner || x.Outer == b.Outer {
			return 0, api.ErrTwice
		}
	}
	if len(has) == most {
		return 0, api.ErrFull
	}
	id := 0
	for ; ; id++ {
		if _, there := has[id]; !there {
			return id, api.OK
		}
	}
}
