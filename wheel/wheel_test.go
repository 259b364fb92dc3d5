package wheel_test

import (
	"cmp"
	"fmt"
	"iter"
	"maps"
	"math"
	"math/rand/v2"
	"slices"
	"testing"

	"goosepond/api"
	"goosepond/wheel"
)

const (
	mostTimers = 1 << 20
	mostID     = 1 << 31
)

// pair is an id, and for when it is armed.
type pair struct{ id, at int }

// made is New of what may be.
func made(t *testing.T, most int) *wheel.Wheel {
	t.Helper()
	w, e := wheel.New(most)
	if e != api.OK || w == nil {
		t.Fatalf("New(%d) = %v, %d", most, w, e)
	}
	return w
}

// arm arms one behind the other, all of which must be taken.
func arm(t *testing.T, w *wheel.Wheel, l ...pair) {
	t.Helper()
	for _, p := range l {
		if e := w.Arm(p.id, p.at); e != api.OK {
			t.Fatalf("Arm(%d, %d) = %d", p.id, p.at, e)
		}
	}
}

// told are the pairs that an iterator goes through.
func told(all iter.Seq2[int, int]) (l []pair) {
	for id, at := range all {
		l = append(l, pair{id, at})
	}
	return l
}

// has fails unless this is the time, and these are armed, as All tells them.
func has(t *testing.T, name string, w *wheel.Wheel, now int, l ...pair) {
	t.Helper()
	if w.Now() != now || w.Len() != len(l) || !slices.Equal(told(w.All()), l) {
		t.Errorf("%s: Now = %d, Len = %d, All = %v; want %d, %v", name, w.Now(), w.Len(), told(w.All()), now, l)
	}
	for _, p := range l {
		if at, ok := w.At(p.id); at != p.at || !ok {
			t.Errorf("%s: At(%d) = %d, %v; want %d", name, p.id, at, ok, p.at)
		}
	}
}

// goes fails unless Advance(now) answers these ids.
func goes(t *testing.T, name string, w *wheel.Wheel, now int, want ...int) {
	t.Helper()
	if got := w.Advance(now); !slices.Equal(got, want) {
		t.Errorf("%s: Advance(%d) = %v; want %v", name, now, got, want)
	}
}

// P17.1: the chapter's example.
func TestExample(t *testing.T) {
	w := made(t, 2)
	arm(t, w, pair{1, 5}, pair{2, 3})
	goes(t, "example 1", w, 5, 2, 1)
	has(t, "example 1", w, 5)
}

// P17.1: what New takes, and what it refuses.
func TestNew(t *testing.T) {
	for _, c := range []struct {
		most int
		want api.Errno
	}{
		{0, api.OK},
		{1, api.OK},
		{mostTimers, api.OK},
		{-1, api.ErrArg},
		{mostTimers + 1, api.ErrArg},
		{math.MinInt, api.ErrArg},
		{math.MaxInt, api.ErrArg},
	} {
		w, e := wheel.New(c.most)
		if e != c.want || (w == nil) != (e != api.OK) {
			t.Errorf("New(%d) = %v, %d; want %d", c.most, w, e, c.want)
		}
		if e == api.OK {
			has(t, "a new one", w, 0)
		}
	}
}

// P17.1: what Arm says, and that nothing changes where it refuses.
func TestArm(t *testing.T) {
	five := []pair{{5, 50}}
	for _, c := range []struct {
		name    string
		most    int
		there   []pair
		id, at  int
		want    api.Errno
		content []pair
	}{
		{"the first one", 1, nil, 1, 5, api.OK, []pair{{1, 5}}},
		{"the least", 1, nil, 0, 0, api.OK, []pair{{0, 0}}},
		{"the greatest", 1, nil, mostID, api.MaxTime, api.OK, []pair{{mostID, api.MaxTime}}},
		{"id -1", 2, five, -1, 5, api.ErrArg, five},
		{"id too great", 2, five, mostID + 1, 5, api.ErrArg, five},
		{"the least id", 2, five, math.MinInt, 5, api.ErrArg, five},
		{"the greatest id", 2, five, math.MaxInt, 5, api.ErrArg, five},
		{"at -1", 2, five, 1, -1, api.ErrArg, five},
		{"at too great", 2, five, 1, api.MaxTime + 1, api.ErrArg, five},
		{"the least at", 2, five, 1, math.MinInt, api.ErrArg, five},
		{"the greatest at", 2, five, 1, math.MaxInt, api.ErrArg, five},
		{"at -1 of one that is armed", 2, five, 5, -1, api.ErrArg, five},
		{"at too great of one that is armed", 2, five, 5, api.MaxTime + 1, api.ErrArg, five},
		{"none may be", 0, nil, 1, 5, api.ErrFull, nil},
		{"none may be, ErrArg ahead", 0, nil, 1, -1, api.ErrArg, nil},
		{"one too many", 1, five, 1, 5, api.ErrFull, five},
		{"one too many, ErrArg of id ahead", 1, five, -1, 5, api.ErrArg, five},
		{"one too many, ErrArg of at ahead", 1, five, 1, api.MaxTime + 1, api.ErrArg, five},
		{"the last one that may be", 2, five, 1, 5, api.OK, []pair{{1, 5}, {5, 50}}},
		{"anew, where it is full", 1, five, 5, 60, api.OK, []pair{{5, 60}}},
		{"anew, earlier", 2, five, 5, 40, api.OK, []pair{{5, 40}}},
		{"anew, the same", 2, five, 5, 50, api.OK, five},
	} {
		w := made(t, c.most)
		arm(t, w, c.there...)
		if e := w.Arm(c.id, c.at); e != c.want {
			t.Errorf("%s: Arm(%d, %d) = %d; want %d", c.name, c.id, c.at, e, c.want)
		}
		has(t, c.name, w, 0, c.content...)
	}
}

// P17.1: who is armed for a time that is over is armed for the time that it is, and goes off at whatever comes next.
func TestArmForThePast(t *testing.T) {
	w := made(t, 10)
	goes(t, "none", w, 100)
	arm(t, w, pair{1, 100}, pair{2, 99}, pair{3, 0}, pair{4, 101})
	has(t, "armed", w, 100, pair{1, 100}, pair{2, 100}, pair{3, 100}, pair{4, 101})
	goes(t, "a time that is over", w, 7, 1, 2, 3)
	has(t, "the time stays", w, 100, pair{4, 101})
	arm(t, w, pair{4, 3}, pair{5, 101})
	goes(t, "anew", w, 101, 4, 5)
	has(t, "all gone", w, 101)
}

// P17.1: who goes off, and in what order.
func TestAdvance(t *testing.T) {
	for _, c := range []struct {
		name string
		l    []pair
		now  int
		gone []int
		left []pair
	}{
		{"none", nil, 10, nil, nil},
		{"one ahead", []pair{{1, 11}}, 10, nil, []pair{{1, 11}}},
		{"one at its time", []pair{{1, 10}}, 10, []int{1}, nil},
		{"one behind its time", []pair{{1, 9}}, 10, []int{1}, nil},
		{"for 0, at 0", []pair{{1, 0}, {2, 1}}, 0, []int{1}, []pair{{2, 1}}},
		{"for 0, below 0", []pair{{1, 0}, {2, 1}}, -1, []int{1}, []pair{{2, 1}}},
		{"for 0, at the least", []pair{{1, 0}, {2, 1}}, math.MinInt, []int{1}, []pair{{2, 1}}},
		{"by time, not by id", []pair{{1, 30}, {2, 20}, {3, 10}}, 30, []int{3, 2, 1}, nil},
		{"by time, not as armed", []pair{{3, 30}, {1, 10}, {2, 20}}, 30, []int{1, 2, 3}, nil},
		{"alike as armed, not by id", []pair{{3, 10}, {1, 10}, {2, 10}}, 10, []int{3, 1, 2}, nil},
		{"alike as armed last", []pair{{1, 10}, {2, 10}, {3, 10}, {1, 10}}, 10, []int{2, 3, 1}, nil},
		{"alike as armed last, from elsewhere", []pair{{1, 70}, {2, 10}, {3, 5}, {1, 10}, {3, 10}}, 10, []int{2, 1, 3}, nil},
		{"alike as armed last, gone elsewhere and back", []pair{{1, 10}, {2, 10}, {1, 5000}, {1, 10}}, 10, []int{2, 1}, nil},
		{"not for when it was armed ahead", []pair{{1, 10}, {1, 20}}, 15, nil, []pair{{1, 20}}},
		{"for when it was armed last", []pair{{1, 20}, {1, 10}}, 15, []int{1}, nil},
		{"some", []pair{{1, 5}, {2, 6}, {3, 7}, {4, 6}}, 6, []int{1, 2, 4}, []pair{{3, 7}}},
		{"far and near", []pair{{1, 1000000}, {2, 1}, {3, 1000}, {4, 999999}}, 999999, []int{2, 3, 4}, []pair{{1, 1000000}}},
		{"the ends of what one digit tells apart", []pair{{1, 63}, {2, 64}, {3, 65}, {4, 127}, {5, 128}}, 64, []int{1, 2}, []pair{{3, 65}, {4, 127}, {5, 128}}},
		{"the ends of what two digits tell apart", []pair{{1, 4095}, {2, 4096}, {3, 4097}, {4, 8191}}, 4096, []int{1, 2}, []pair{{3, 4097}, {4, 8191}}},
		{"the greatest time", []pair{{1, api.MaxTime}, {2, api.MaxTime - 1}}, api.MaxTime - 1, []int{2}, []pair{{1, api.MaxTime}}},
		{"at the greatest time", []pair{{1, api.MaxTime}, {2, api.MaxTime - 1}}, api.MaxTime, []int{2, 1}, nil},
		{"above the greatest time", []pair{{1, api.MaxTime}, {2, api.MaxTime - 1}}, math.MaxInt, []int{2, 1}, nil},
	} {
		w := made(t, 10)
		arm(t, w, c.l...)
		goes(t, c.name, w, c.now, c.gone...)
		now := min(max(c.now, 0), api.MaxTime)
		has(t, c.name, w, now, c.left...)
		goes(t, c.name+", again", w, c.now)
		has(t, c.name+", again", w, now, c.left...)
	}
}

// P17.1: time goes on alone, and no further than MaxTime.
func TestNow(t *testing.T) {
	w := made(t, 1)
	for _, c := range []struct{ now, want int }{
		{0, 0}, {-1, 0}, {5, 5}, {4, 5}, {5, 5}, {math.MinInt, 5}, {6, 6}, {0, 6}, {100000, 100000},
		{api.MaxTime - 1, api.MaxTime - 1}, {7, api.MaxTime - 1}, {api.MaxTime, api.MaxTime},
		{api.MaxTime + 1, api.MaxTime}, {math.MaxInt, api.MaxTime}, {0, api.MaxTime},
	} {
		goes(t, "none", w, c.now)
		has(t, "none", w, c.want)
	}
	arm(t, w, pair{1, 5})
	has(t, "at the end", w, api.MaxTime, pair{1, api.MaxTime})
	goes(t, "at the end", w, math.MaxInt, 1)
	v := made(t, 1)
	goes(t, "held", v, math.MaxInt)
	has(t, "held", v, api.MaxTime)
}

// P17.1: who is cancelled is armed no more, and makes room.
func TestCancel(t *testing.T) {
	w := made(t, 3)
	arm(t, w, pair{1, 10}, pair{2, 10}, pair{3, 10})
	for _, id := range []int{0, -1, 4, mostID, math.MinInt, math.MaxInt} {
		if w.Cancel(id) {
			t.Errorf("Cancel(%d) of one that is not armed", id)
		}
	}
	has(t, "none cancelled", w, 0, pair{1, 10}, pair{2, 10}, pair{3, 10})
	if !w.Cancel(2) || w.Cancel(2) {
		t.Error("Cancel(2), twice")
	}
	has(t, "the one between", w, 0, pair{1, 10}, pair{3, 10})
	if at, ok := w.At(2); at != 0 || ok {
		t.Errorf("At(2) = %d, %v", at, ok)
	}
	arm(t, w, pair{4, 10})
	if e := w.Arm(5, 10); e != api.ErrFull {
		t.Errorf("Arm(5, 10) = %d", e)
	}
	if !w.Cancel(1) || !w.Cancel(4) {
		t.Error("Cancel of the first one and the last one")
	}
	has(t, "first and last", w, 0, pair{3, 10})
	arm(t, w, pair{2, 10}, pair{1, 10})
	goes(t, "those that are left", w, 10, 3, 2, 1)
	if w.Cancel(3) {
		t.Error("Cancel(3) of one that went off")
	}
	has(t, "all gone", w, 10)
	arm(t, w, pair{3, 20})
	if !w.Cancel(3) {
		t.Error("Cancel(3) of one that was armed anew")
	}
	goes(t, "cancelled", w, api.MaxTime)
}

// P17.2: for when ids are armed, and that there is nothing of the others.
func TestAt(t *testing.T) {
	w := made(t, 10)
	arm(t, w, pair{0, 0}, pair{7, 3}, pair{mostID, api.MaxTime})
	for _, c := range []struct {
		id, at int
		ok     bool
	}{
		{0, 0, true}, {7, 3, true}, {mostID, api.MaxTime, true},
		{1, 0, false}, {-1, 0, false}, {mostID + 1, 0, false}, {math.MinInt, 0, false}, {math.MaxInt, 0, false},
	} {
		if at, ok := w.At(c.id); at != c.at || ok != c.ok {
			t.Errorf("At(%d) = %d, %v; want %d, %v", c.id, at, ok, c.at, c.ok)
		}
	}
	goes(t, "two", w, 3, 0, 7)
	if at, ok := w.At(7); at != 0 || ok {
		t.Errorf("At(7) = %d, %v of one that went off", at, ok)
	}
}

// P17.2, R4, R7: ids rise, whatever order they were armed in; who asks twice is told the same twice, who ends early no more.
func TestAll(t *testing.T) {
	r := rand.New(rand.NewPCG(17, 1))
	want := []pair{{0, 900}, {1, 5}, {2, api.MaxTime}, {63, 0}, {64, 64}, {65, 5}, {4096, 1}, {mostID - 1, 7}, {mostID, 6}}
	for range 20 {
		w := made(t, 10)
		for _, i := range r.Perm(len(want)) {
			arm(t, w, want[i])
		}
		has(t, "rising", w, 0, want...)
		all := w.All()
		for range 2 {
			if l := told(all); !slices.Equal(l, want) {
				t.Errorf("All = %v; want %v", l, want)
			}
		}
		n := 0
		for id, at := range all {
			if id != want[n].id || at != want[n].at {
				t.Errorf("All = %d, %d; want %v", id, at, want[n])
			}
			if n++; n == 4 {
				break
			}
		}
		if n != 4 {
			t.Errorf("All told %d", n)
		}
	}
	if l := told(made(t, 10).All()); len(l) != 0 {
		t.Errorf("All = %v of an empty one", l)
	}
}

// P17.1, P17.2, R5: of what no call made there is nothing.
func TestNotMade(t *testing.T) {
	refused, _ := wheel.New(-1)
	for name, w := range map[string]*wheel.Wheel{"nil": nil, "zero": {}, "refused": refused} {
		for _, p := range []pair{{1, 5}, {0, 0}, {-1, 5}, {1, -1}, {math.MinInt, math.MaxInt}} {
			if e := w.Arm(p.id, p.at); e != api.ErrNil {
				t.Errorf("%s: Arm(%d, %d) = %d", name, p.id, p.at, e)
			}
			if at, ok := w.At(p.id); w.Cancel(p.id) || at != 0 || ok {
				t.Errorf("%s: At(%d) = %d, %v", name, p.id, at, ok)
			}
			goes(t, name, w, p.at)
		}
		goes(t, name, w, math.MaxInt)
		has(t, name, w, 0)
		if told(w.All()) != nil || told(w.All()) != nil {
			t.Errorf("%s: All told something", name)
		}
	}
}

// R3: whoever gets an answer may change it; two wheels have nothing in common.
func TestSharesNothing(t *testing.T) {
	w, v := made(t, 10), made(t, 10)
	arm(t, w, pair{1, 5}, pair{2, 5}, pair{3, 6})
	arm(t, v, pair{1, 7})
	gone := w.Advance(5)
	gone = append(gone, 8)
	gone[0], gone[1] = 3, 3
	has(t, "changed", w, 5, pair{3, 6})
	has(t, "the other one", v, 0, pair{1, 7})
	arm(t, w, pair{1, 6})
	goes(t, "changed", w, 6, 3, 1)
	if !slices.Equal(gone, []int{3, 3, 8}) {
		t.Errorf("the answer is %v now", gone)
	}
	goes(t, "the other one", v, 7, 1)
}

// model is a wheel in another way: a list that is sorted each time.
type model struct {
	most, now, count int
	armed            map[int]entry
}

// entry is for when an id is armed, and as which one.
type entry struct{ at, count int }

func (m *model) arm(id, at int) api.Errno {
	_, armed := m.armed[id]
	switch {
	case id < 0, id > mostID, at < 0, at > api.MaxTime:
		return api.ErrArg
	case !armed && len(m.armed) == m.most:
		return api.ErrFull
	}
	m.count++
	m.armed[id] = entry{max(at, m.now), m.count}
	return api.OK
}

func (m *model) cancel(id int) bool {
	_, armed := m.armed[id]
	delete(m.armed, id)
	return armed
}

func (m *model) advance(now int) (gone []int) {
	m.now = min(max(m.now, now), api.MaxTime)
	for id, en := range m.armed {
		if en.at <= m.now {
			gone = append(gone, id)
		}
	}
	slices.SortFunc(gone, func(a, b int) int {
		x, y := m.armed[a], m.armed[b]
		return cmp.Or(cmp.Compare(x.at, y.at), cmp.Compare(x.count, y.count))
	})
	for _, id := range gone {
		delete(m.armed, id)
	}
	return gone
}

func (m *model) pairs() (l []pair) {
	for _, id := range slices.Sorted(maps.Keys(m.armed)) {
		l = append(l, pair{id, m.armed[id].at})
	}
	return l
}

// some is a number of 0 to 2^n - 1, small ones as often as great ones, and often a round one.
func some(r *rand.Rand, n int) int {
	x := r.IntN(1 << r.IntN(n+1))
	if r.IntN(3) == 0 {
		x = x>>6<<6 + r.IntN(3) - 1
	}
	return x
}

// P17.1, P17.2: many calls, with times near and far.
func TestMany(t *testing.T) {
	r := rand.New(rand.NewPCG(17, 2))
	for range 600 {
		m := &model{most: r.IntN(40), armed: map[int]entry{}}
		w, far, ids := made(t, m.most), 1+r.IntN(42), 1+r.IntN(60)
		for range 200 {
			id := r.IntN(ids)
			switch r.IntN(8) {
			case 0:
				if got, want := w.Cancel(id), m.cancel(id); got != want {
					t.Fatalf("Cancel(%d) = %v; want %v", id, got, want)
				}
			case 1, 2:
				now := m.now + some(r, far)
				if got, want := w.Advance(now), m.advance(now); !slices.Equal(got, want) {
					t.Fatalf("Advance(%d) = %v; want %v", now, got, want)
				}
			default:
				at := m.now + some(r, far)
				if got, want := w.Arm(id, at), m.arm(id, at); got != want {
					t.Fatalf("Arm(%d, %d) = %d; want %d", id, at, got, want)
				}
			}
			has(t, "many", w, m.now, m.pairs()...)
			if t.Failed() {
				t.FailNow()
			}
		}
	}
}

// P17.3: who is armed goes off at the first Advance to its time, or above, and not ahead, whatever the steps are.
func TestFirstAdvance(t *testing.T) {
	r := rand.New(rand.NewPCG(17, 3))
	for _, step := range []int{1, 2, 3, 63, 64, 65, 700, 4096, 100000} {
		w, began := made(t, 1000), r.IntN(10000)
		goes(t, "begin", w, began)
		at := map[int]int{}
		for id := range 1000 {
			at[id] = began + r.IntN(6*step+3000)
			arm(t, w, pair{id, at[id]})
		}
		for now := began; len(at) > 0; now += step {
			for _, id := range w.Advance(now) {
				if when, armed := at[id]; !armed || when > now || when <= now-step {
					t.Fatalf("step %d: %d, which is armed for %d, went off at %d", step, id, when, now)
				}
				delete(at, id)
			}
			if len(at) > 0 && now > began+6*step+3000 {
				t.Fatalf("step %d: %d did not go off", step, len(at))
			}
		}
		has(t, "all gone", w, w.Now())
	}
}

// P17.1: who was armed for the same time at different times goes off in the order in which they were armed, though time went on between.
func TestAlikeFromAfar(t *testing.T) {
	for _, at := range []int{64, 4095, 4096, 4160, 300000, 16777216, api.MaxTime} {
		w := made(t, 100)
		var want []int
		for id := range 40 {
			arm(t, w, pair{40 - id, at})
			want = append(want, 40-id)
			goes(t, "not yet", w, at-max(at>>id, 1))
		}
		goes(t, fmt.Sprint("armed for ", at), w, at, want...)
	}
}

// P17.1: as many as may be, over all time, in one step.
func TestGreat(t *testing.T) {
	w := made(t, mostTimers)
	for i := range mostTimers {
		arm(t, w, pair{mostID - i, (i * 7919 % mostTimers) << 20})
	}
	if e := w.Arm(1, 1); e != api.ErrFull {
		t.Errorf("Arm of one too many = %d", e)
	}
	gone := w.Advance(api.MaxTime - 1)
	if len(gone) != mostTimers || w.Len() != 0 || !slices.IsSortedFunc(gone, func(a, b int) int {
		return cmp.Compare((mostID-a)*7919%mostTimers, (mostID-b)*7919%mostTimers)
	}) {
		t.Errorf("Advance = %d ids, Len = %d", len(gone), w.Len())
	}
}

// P17.1: many seconds with many that wait, who are armed anew time and again: no second is long, and nothing is left behind.
func TestManySeconds(t *testing.T) {
	const n = 100000
	w := made(t, n)
	for id := range n {
		arm(t, w, pair{id, 64 * n})
	}
	for now := range n {
		for k := range 5 {
			arm(t, w, pair{(now*5 + k) % n, now + 64*n})
		}
		goes(t, "not yet", w, now)
	}
	if gone := w.Advance(66 * n); len(gone) != n || w.Len() != 0 {
		t.Errorf("Advance = %d ids, Len = %d", len(gone), w.Len())
	}
}

// R4: the same calls answer the same.
func TestSameTwice(t *testing.T) {
	run := func() string {
		r, w := rand.New(rand.NewPCG(17, 4)), made(t, 50)
		text := ""
		for range 500 {
			text += fmt.Sprintln(w.Arm(r.IntN(60), w.Now()+r.IntN(9)), w.Cancel(r.IntN(60)), w.Advance(w.Now()+r.IntN(2)), told(w.All()))
		}
		return text
	}
	if run() != run() {
		t.Error("the same calls answered otherwise")
	}
}
