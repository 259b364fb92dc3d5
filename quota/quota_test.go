package quota_test

import (
	"math"
	"math/rand/v2"
	"testing"

	"goosepond/api"
	"goosepond/quota"
)

// made is New of what may be.
func made(t *testing.T, many, each int) *quota.Quota {
	t.Helper()
	q, e := quota.New(many, each)
	if e != api.OK || q == nil {
		t.Fatalf("New(%d, %d) = %v, %d", many, each, q, e)
	}
	return q
}

// P21.1: the chapter's example.
func TestExample(t *testing.T) {
	q := made(t, 1, 1)
	if e := q.Take(0); e != api.OK {
		t.Errorf("the first Take: %d", e)
	}
	if e := q.Take(0); e != api.ErrQuota {
		t.Errorf("the second Take: %d", e)
	}
}

// P21.1: how many softwires there may be, and how many each may have.
func TestNew(t *testing.T) {
	for _, c := range []struct {
		many, each int
		e          api.Errno
	}{
		{1, 0, api.OK},
		{1, 4096, api.OK},
		{64, 0, api.OK},
		{64, 4096, api.OK},
		{0, 1, api.ErrArg},
		{65, 1, api.ErrArg},
		{-1, 1, api.ErrArg},
		{1, -1, api.ErrArg},
		{1, 4097, api.ErrArg},
		{math.MinInt, 1, api.ErrArg},
		{math.MaxInt, 1, api.ErrArg},
		{1, math.MinInt, api.ErrArg},
		{1, math.MaxInt, api.ErrArg},
	} {
		q, e := quota.New(c.many, c.each)
		if e != c.e || (q != nil) != (e == api.OK) {
			t.Errorf("New(%d, %d) = %v, %d; want %d", c.many, c.each, q, e, c.e)
		}
	}
}

// P21.1: nobody has any to begin with.
func TestBegin(t *testing.T) {
	q := made(t, 64, 4096)
	for i := range 64 {
		if n := q.Count(i); n != 0 {
			t.Errorf("Count(%d) = %d", i, n)
		}
		if e := q.Give(i); e != api.ErrNone {
			t.Errorf("Give(%d) = %d", i, e)
		}
	}
	if n := q.Total(); n != 0 {
		t.Errorf("Total = %d", n)
	}
}

// P21.1: whom there is not.
func TestNobody(t *testing.T) {
	for _, many := range []int{1, 3, 64} {
		q := made(t, many, 2)
		q.Take(0)
		for _, i := range []int{-1, many, many + 1, math.MinInt, math.MaxInt, math.MinInt + many} {
			if e := q.Take(i); e != api.ErrArg {
				t.Errorf("Take(%d) of %d = %d", i, many, e)
			}
			if e := q.Give(i); e != api.ErrArg {
				t.Errorf("Give(%d) of %d = %d", i, many, e)
			}
			if n := q.Count(i); n != 0 {
				t.Errorf("Count(%d) of %d = %d", i, many, n)
			}
		}
		if q.Count(0) != 1 || q.Total() != 1 {
			t.Errorf("what was refused has changed something: %d, %d", q.Count(0), q.Total())
		}
	}
}

// P21.1: those with no room at all.
func TestNothingEach(t *testing.T) {
	q := made(t, 2, 0)
	for i := range 2 {
		if e := q.Take(i); e != api.ErrQuota {
			t.Errorf("Take(%d) = %d", i, e)
		}
		if e := q.Give(i); e != api.ErrNone {
			t.Errorf("Give(%d) = %d", i, e)
		}
	}
	if n := q.Total(); n != 0 {
		t.Errorf("Total = %d", n)
	}
}

// P21.1, P21.2: each is held to its own, up to the most there may be.
func TestFull(t *testing.T) {
	const each = 4096
	q := made(t, 64, each)
	for i := range 64 {
		for n := range each {
			if e := q.Take(i); e != api.OK {
				t.Fatalf("Take(%d) with %d = %d", i, n, e)
			}
		}
		if e := q.Take(i); e != api.ErrQuota || q.Count(i) != each {
			t.Fatalf("Take(%d) with all = %d, and has %d", i, e, q.Count(i))
		}
		if n := q.Total(); n != (i+1)*each {
			t.Fatalf("Total = %d", n)
		}
	}
	if e := q.Give(63); e != api.OK || q.Count(63) != each-1 || q.Total() != 64*each-1 {
		t.Errorf("Give(63) = %d, and has %d of %d", e, q.Count(63), q.Total())
	}
	if e := q.Take(63); e != api.OK || q.Count(63) != each || q.Count(62) != each {
		t.Errorf("Take(63) = %d, and has %d", e, q.Count(63))
	}
}

// P21.1, R5: what no call made.
func TestNotMade(t *testing.T) {
	refused, _ := quota.New(0, 0)
	for _, q := range []*quota.Quota{nil, {}, refused} {
		for _, i := range []int{0, -1, 64} {
			if e := q.Take(i); e != api.ErrNil {
				t.Errorf("Take(%d) = %d", i, e)
			}
			if e := q.Give(i); e != api.ErrNil {
				t.Errorf("Give(%d) = %d", i, e)
			}
			if n := q.Count(i); n != 0 {
				t.Errorf("Count(%d) = %d", i, n)
			}
		}
		if n := q.Total(); n != 0 {
			t.Errorf("Total = %d", n)
		}
	}
}

// P21.1, P21.2, R1, R2, R4: two quotas against one map, with what is refused among it.
func TestRandom(t *testing.T) {
	r := rand.New(rand.NewPCG(21, 1))
	for range 200 {
		many, each := 1+r.IntN(6), r.IntN(5)
		q, same := made(t, many, each), made(t, many, each)
		has := map[int]int{}
		for range 200 {
			i := r.IntN(many+2) - 1
			there := i >= 0 && i < many
			var want, got, again api.Errno
			if r.IntN(5) < 3 {
				switch {
				case !there:
					want = api.ErrArg
				case has[i] == each:
					want = api.ErrQuota
				default:
					has[i]++
				}
				got, again = q.Take(i), same.Take(i)
			} else {
				switch {
				case !there:
					want = api.ErrArg
				case has[i] == 0:
					want = api.ErrNone
				default:
					has[i]--
				}
				got, again = q.Give(i), same.Give(i)
			}
			if got != want || again != want {
				t.Fatalf("of %d: %d, %d; want %d", i, got, again, want)
			}
			total := 0
			for i, n := range has {
				total += n
				if q.Count(i) != n || same.Count(i) != n || n > each {
					t.Fatalf("Count(%d) = %d, %d; want %d, of %d at most", i, q.Count(i), same.Count(i), n, each)
				}
			}
			if q.Total() != total || same.Total() != total {
				t.Fatalf("Total = %d, %d; want %d", q.Total(), same.Total(), total)
			}
		}
	}
}
