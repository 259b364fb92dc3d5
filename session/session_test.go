package session_test

import (
	"iter"
	"math"
	"math/rand/v2"
	"testing"

	"goosepond/api"
	"goosepond/session"
)

// of is a binding's session with a remote endpoint, by a small number of that.
func of(binding, remote int) api.Session {
	return api.Session{
		Binding: binding, State: remote % 7, Until: 300 + remote,
		Remote: api.Remote{Addr: 0xC6336401 + remote%3, Port: 5000 + remote/3},
	}
}

// made is New of what may be.
func made(t *testing.T, most int) *session.Table {
	t.Helper()
	d, e := session.New(most)
	if e != api.OK || d == nil {
		t.Fatalf("New(%d) = %v, %d", most, d, e)
	}
	return d
}

// add adds s, and fails unless it becomes number id.
func add(t *testing.T, d *session.Table, s api.Session, id int) {
	t.Helper()
	if got, e := d.Add(s); got != id || e != api.OK {
		t.Fatalf("Add(%v) = %d, %d; want %d", s, got, e, id)
	}
}

// refuses fails unless Add answers this error, and nothing beside it.
func refuses(t *testing.T, d *session.Table, s api.Session, e api.Errno) {
	t.Helper()
	if got, f := d.Add(s); got != 0 || f != e {
		t.Errorf("Add(%v) = %d, %d; want %d", s, got, f, e)
	}
}

// numbered is a session and its number.
type numbered struct {
	id int
	s  api.Session
}

// told is what an iterator tells.
func told(all iter.Seq2[int, api.Session]) (l []numbered) {
	for id, s := range all {
		l = append(l, numbered{id, s})
	}
	return l
}

// same fails unless an iterator tells these.
func same(t *testing.T, all iter.Seq2[int, api.Session], l []numbered) {
	t.Helper()
	got := told(all)
	if len(got) != len(l) {
		t.Fatalf("told are %v; want %v", got, l)
	}
	for i := range l {
		if got[i] != l[i] {
			t.Errorf("told is %v at %d; want %v", got[i], i, l[i])
		}
	}
}

// holds fails unless these, by rising numbers, are all that there are, in whatever way they are looked for.
func holds(t *testing.T, d *session.Table, l ...numbered) {
	t.Helper()
	if n := d.Len(); n != len(l) {
		t.Errorf("Len = %d; want %d", n, len(l))
	}
	same(t, d.All(), l)
	each := map[int][]numbered{}
	for _, x := range l {
		if s, ok := d.Get(x.id); s != x.s || !ok {
			t.Errorf("Get(%d) = %v, %t; want %v", x.id, s, ok, x.s)
		}
		if id, ok := d.Find(x.s.Binding, x.s.Remote); id != x.id || !ok {
			t.Errorf("Find(%d, %v) = %d, %t; want %d", x.s.Binding, x.s.Remote, id, ok, x.id)
		}
		each[x.s.Binding] = append(each[x.s.Binding], x)
	}
	for binding, l := range each {
		same(t, d.Of(binding), l)
	}
}

// lacks fails if there is one with this number, or with the binding and remote endpoint of s.
func lacks(t *testing.T, d *session.Table, id int, s api.Session) {
	t.Helper()
	if got, ok := d.Get(id); got != (api.Session{}) || ok {
		t.Errorf("Get(%d) = %v, %t", id, got, ok)
	}
	if got, ok := d.Find(s.Binding, s.Remote); got != 0 || ok {
		t.Errorf("Find(%d, %v) = %d, %t", s.Binding, s.Remote, got, ok)
	}
	if d.Set(id, 1, 1) {
		t.Errorf("Set(%d) found one", id)
	}
	if d.Remove(id) {
		t.Errorf("Remove(%d) took one out", id)
	}
}

// P24.1: the chapter's example.
func TestExample(t *testing.T) {
	d := made(t, 2)
	add(t, d, of(0, 0), 0)
	refuses(t, d, of(0, 0), api.ErrTwice)
	holds(t, d, numbered{0, of(0, 0)})
}

// P24.1: how many there may be.
func TestNew(t *testing.T) {
	for _, c := range []struct {
		most int
		e    api.Errno
	}{
		{0, api.OK},
		{1, api.OK},
		{4096, api.OK},
		{-1, api.ErrArg},
		{4097, api.ErrArg},
		{math.MinInt, api.ErrArg},
		{math.MaxInt, api.ErrArg},
	} {
		d, e := session.New(c.most)
		if e != c.e || (d != nil) != (e == api.OK) {
			t.Errorf("New(%d) = %v, %d; want %d", c.most, d, e, c.e)
		}
		if e == api.OK {
			holds(t, d)
			same(t, d.Of(0), nil)
		}
	}
}

// P24.1: where no room is, and what is there already, which is told ahead of it.
func TestFull(t *testing.T) {
	d := made(t, 0)
	refuses(t, d, of(0, 0), api.ErrFull)
	refuses(t, d, api.Session{}, api.ErrFull)
	holds(t, d)

	d = made(t, 2)
	add(t, d, of(0, 0), 0)
	refuses(t, d, of(0, 0), api.ErrTwice)
	add(t, d, of(0, 1), 1)
	refuses(t, d, of(0, 2), api.ErrFull)
	refuses(t, d, of(1, 0), api.ErrFull)
	refuses(t, d, of(0, 0), api.ErrTwice)
	refuses(t, d, of(0, 1), api.ErrTwice)
	holds(t, d, numbered{0, of(0, 0)}, numbered{1, of(0, 1)})
	same(t, d.Of(1), nil)
	d.Remove(1)
	add(t, d, of(1, 0), 1)
	refuses(t, d, of(0, 1), api.ErrFull)
	holds(t, d, numbered{0, of(0, 0)}, numbered{1, of(1, 0)})
}

// P24.1: as many as there may ever be, of one binding and of many.
func TestMost(t *testing.T) {
	const most = 4096
	for _, bindings := range []int{1, 64, most} {
		d := made(t, most)
		var l []numbered
		for i := range most {
			s := of(i%bindings, i)
			add(t, d, s, i)
			l = append(l, numbered{i, s})
		}
		refuses(t, d, of(0, most), api.ErrFull)
		holds(t, d, l...)
		for i := 0; i < most; i += 7 {
			if !d.Remove(i) {
				t.Fatalf("Remove(%d) found none", i)
			}
		}
		for i := 0; i < most; i += 7 {
			l[i].s = of(i%3, most+i)
			add(t, d, l[i].s, i)
		}
		refuses(t, d, of(0, 2*most), api.ErrFull)
		holds(t, d, l...)
	}
}

// P24.1, P24.2: a binding and a remote endpoint in common are too much, whatever else is; one of both is not.
func TestTwice(t *testing.T) {
	d := made(t, 9)
	s := api.Session{Binding: 3, State: api.StateOpen, Until: 9, Remote: api.Remote{Addr: 5, Port: 6}}
	add(t, d, s, 0)
	other := s
	other.State, other.Until = api.StateDone, 10
	refuses(t, d, s, api.ErrTwice)
	refuses(t, d, other, api.ErrTwice)
	l := []numbered{{0, s}}
	for _, change := range []func(*api.Session){
		func(s *api.Session) { s.Binding = 4 },
		func(s *api.Session) { s.Remote.Addr = 6 },
		func(s *api.Session) { s.Remote.Port = 5 },
	} {
		other := s
		change(&other)
		add(t, d, other, len(l))
		refuses(t, d, other, api.ErrTwice)
		l = append(l, numbered{len(l), other})
	}
	holds(t, d, l...)
	d.Remove(0)
	add(t, d, other, 0)
	refuses(t, d, s, api.ErrTwice)
	l[0].s = other
	holds(t, d, l...)
}

// P24.1, P24.2: sessions that differ in one number only are others, whatever their numbers are.
func TestApart(t *testing.T) {
	d := made(t, 100)
	var l []numbered
	for i, n := range [][3]int{
		{},
		{1, 0, 0}, {0, 1, 0}, {0, 0, 1},
		{-1, 0, 0}, {0, -1, 0}, {0, 0, -1},
		{1, 1, 0}, {11, 0, 0}, {0, 11, 0}, {0, 0, 11},
		{1, 12, 0}, {11, 2, 0}, {112, 0, 0}, {0, 1, 12}, {0, 11, 2}, {0, 112, 0}, {0, 0, 112},
		{1, 1, 505}, {101, 5, 5}, {101, 1, 505}, {1, 1015, 5},
		{256, 0, 0}, {0, 256, 0}, {0, 0, 256}, {0, 0, 65536}, {0, 1 << 32, 0}, {1 << 32, 0, 0},
		{math.MaxInt, 0, 0}, {math.MinInt, 0, 0}, {0, math.MaxInt, 0}, {0, math.MinInt, 0}, {0, 0, math.MaxInt}, {0, 0, math.MinInt},
		{7, 0xC6336401, 5000}, {8, 0xC6336401, 5000}, {7, 0xC6336402, 5000}, {7, 0xC6336401, 5001},
	} {
		s := api.Session{Binding: n[0], Remote: api.Remote{Addr: n[1], Port: n[2]}}
		add(t, d, s, i)
		l = append(l, numbered{i, s})
	}
	holds(t, d, l...)
	for i, x := range l {
		if !d.Remove(x.id) {
			t.Errorf("Remove(%d) found none", x.id)
		}
		lacks(t, d, x.id, x.s)
		holds(t, d, l[i+1:]...)
	}
}

// P24.1: numbers that none has.
func TestNone(t *testing.T) {
	d := made(t, 8)
	for _, id := range []int{0, 1, -1, 8, math.MinInt, math.MaxInt} {
		lacks(t, d, id, of(0, 0))
	}
	for i := range 3 {
		add(t, d, of(i, i), i)
	}
	for _, id := range []int{3, 7, 8, -1, math.MinInt, math.MaxInt} {
		lacks(t, d, id, of(3, 3))
	}
	lacks(t, d, 3, of(0, 1))
	lacks(t, d, 3, of(1, 0))
	if !d.Remove(1) || d.Remove(1) {
		t.Error("Remove(1) twice: not yes, no")
	}
	lacks(t, d, 1, of(1, 1))
	holds(t, d, numbered{0, of(0, 0)}, numbered{2, of(2, 2)})
}

// P24.1: state and time are set, of whatever numbers, and nothing else is.
func TestSet(t *testing.T) {
	d := made(t, 4)
	l := []numbered{{0, of(5, 0)}, {1, of(5, 1)}, {2, of(6, 1)}}
	for _, x := range l {
		add(t, d, x.s, x.id)
	}
	for _, c := range [][3]int{
		{1, api.StateOpen, 7440}, {1, api.StateDone, 240}, {0, 0, 0}, {2, 0, 1 << 40}, {2, -1, -1},
		{0, math.MaxInt, math.MinInt}, {0, math.MinInt, math.MaxInt}, {1, 1, 1},
	} {
		if !d.Set(c[0], c[1], c[2]) {
			t.Errorf("Set%v found none", c)
		}
		l[c[0]].s.State, l[c[0]].s.Until = c[1], c[2]
		holds(t, d, l...)
	}
	for _, id := range []int{3, 4, -1, math.MinInt, math.MaxInt} {
		if d.Set(id, 2, 2) {
			t.Errorf("Set(%d) found one", id)
		}
	}
	holds(t, d, l...)
	d.Remove(1)
	if d.Set(1, 2, 2) {
		t.Error("Set(1) found what is there no more")
	}
	add(t, d, of(5, 9), 1)
	l[1].s = of(5, 9)
	holds(t, d, l...)
}

// P24.1: the least number that is free, whatever was taken out, and in whatever order.
func TestLeast(t *testing.T) {
	d := made(t, 9)
	for i := range 6 {
		add(t, d, of(0, i), i)
	}
	for _, id := range []int{4, 1, 5, 3} {
		d.Remove(id)
	}
	for i, id := range []int{1, 3, 4, 5, 6} {
		add(t, d, of(0, 10+i), id)
	}
	d.Remove(0)
	add(t, d, of(0, 20), 0)
	add(t, d, of(0, 21), 7)
	d.Remove(7)
	d.Remove(6)
	add(t, d, of(0, 22), 6)
	add(t, d, of(0, 23), 7)
	for id := range 8 {
		d.Remove(id)
	}
	holds(t, d)
	same(t, d.Of(0), nil)
	add(t, d, of(0, 0), 0)
}

// P24.1: a binding's sessions rise by their numbers, in whatever order they came, and no other one's are among them.
func TestOf(t *testing.T) {
	d := made(t, 9)
	for i := range 6 {
		add(t, d, of(i%2, i), i)
	}
	for _, id := range []int{0, 4, 2, 1} {
		d.Remove(id)
	}
	same(t, d.Of(0), nil)
	same(t, d.Of(1), []numbered{{3, of(1, 3)}, {5, of(1, 5)}})
	add(t, d, of(1, 10), 0)
	add(t, d, of(7, 11), 1)
	add(t, d, of(1, 12), 2)
	add(t, d, of(0, 13), 4)
	add(t, d, of(-1, 14), 6)
	same(t, d.Of(1), []numbered{{0, of(1, 10)}, {2, of(1, 12)}, {3, of(1, 3)}, {5, of(1, 5)}})
	same(t, d.Of(7), []numbered{{1, of(7, 11)}})
	same(t, d.Of(0), []numbered{{4, of(0, 13)}})
	same(t, d.Of(-1), []numbered{{6, of(-1, 14)}})
	for _, binding := range []int{2, 3, 8, -2, math.MinInt, math.MaxInt} {
		same(t, d.Of(binding), nil)
	}
}

// P24.1, R5: what no call made.
func TestNotMade(t *testing.T) {
	refused, _ := session.New(-1)
	for _, d := range []*session.Table{nil, {}, refused} {
		refuses(t, d, of(0, 0), api.ErrNil)
		refuses(t, d, api.Session{}, api.ErrNil)
		lacks(t, d, 0, api.Session{})
		lacks(t, d, -1, of(1, 1))
		holds(t, d)
		same(t, d.Of(0), nil)
		same(t, d.Of(-1), nil)
	}
}

// R7: who asks twice is told the same twice, who ends early no more; what is told is what was there when it was asked for.
func TestIterator(t *testing.T) {
	d := made(t, 9)
	for i := range 4 {
		add(t, d, of(5, i), i)
	}
	d.Remove(2)
	all := []iter.Seq2[int, api.Session]{d.All(), d.Of(5)}
	l := []numbered{{0, of(5, 0)}, {1, of(5, 1)}, {3, of(5, 3)}}
	for _, told := range all {
		same(t, told, l)
		same(t, told, l)
		for most := 1; most <= 3; most++ {
			asked := 0
			told(func(int, api.Session) bool {
				asked++
				return asked < most
			})
			if asked != most {
				t.Errorf("who ends at %d is asked %d times", most, asked)
			}
		}
	}
	d.Remove(0)
	add(t, d, of(5, 7), 0)
	d.Set(1, 6, 6)
	for _, told := range all {
		same(t, told, l)
	}
}

// P24.1, P24.2, R1, R2, R4: two of them against a map, with what is refused among it.
func TestRandom(t *testing.T) {
	r := rand.New(rand.NewPCG(24, 1))
	for range 60 {
		most, bindings, remotes := r.IntN(12), 1+r.IntN(4), 1+r.IntN(6)
		d, twin := made(t, most), made(t, most)
		has := map[int]api.Session{}
		for range 150 {
			id := r.IntN(most+3) - 1
			s, there := has[id]
			switch r.IntN(6) {
			case 0, 1:
				if d.Remove(id) != there || twin.Remove(id) != there {
					t.Fatalf("Remove(%d) is not %t", id, there)
				}
				delete(has, id)
			case 2:
				s.State, s.Until = r.IntN(7), r.IntN(9999)
				if d.Set(id, s.State, s.Until) != there || twin.Set(id, s.State, s.Until) != there {
					t.Fatalf("Set(%d) is not %t", id, there)
				}
				if there {
					has[id] = s
				}
			default:
				s := of(r.IntN(bindings), r.IntN(remotes))
				s.Until = r.IntN(9999)
				id, want := expected(has, most, s)
				if got, e := d.Add(s); got != id || e != want {
					t.Fatalf("Add(%v) = %d, %d; want %d, %d", s, got, e, id, want)
				}
				twin.Add(s)
				if want == api.OK {
					has[id] = s
				}
			}
			var l []numbered
			each := make([][]numbered, bindings+1)
			for id := range most {
				if s, ok := has[id]; ok {
					l = append(l, numbered{id, s})
					each[s.Binding] = append(each[s.Binding], numbered{id, s})
				}
			}
			holds(t, d, l...)
			holds(t, twin, l...)
			for binding, l := range each {
				same(t, d.Of(binding), l)
				same(t, twin.Of(binding), l)
			}
		}
	}
}

// expected is what Add of s answers where these are.
func expected(has map[int]api.Session, most int, s api.Session) (int, api.Errno) {
	for _, x := range has {
		if x.Binding == s.Binding && x.Remote == s.Remote {
			return 0, api.ErrTwice
		}
	}
	if len(has) == most {
		return 0, api.ErrFull
	}
	id := 0
	for ; ; id++ {
		if _, there := has[id]; !there {
			return id, api.OK
		}
	}
}
