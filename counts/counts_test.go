package counts_test

import (
	"iter"
	"maps"
	"math"
	"math/rand/v2"
	"slices"
	"testing"

	"goosepond/api"
	"goosepond/counts"
)

// words are the names, by the numbers of the reasons, as the chapter has them.
var words = []string{"", "form", "source", "ttl", "proto", "quota", "full", "pool", "state", "binding", "filter", "long", "overlap", "way"}

// none are numbers that are no reasons to drop.
var none = []int{math.MinInt, math.MinInt + 1, -14, -13, -2, -1, 0, 14, 15, 255, 256, 257, 1 << 32, 1<<32 + 1, math.MaxInt}

// named is one of what Each tells.
type named struct {
	name string
	n    int
}

// all is what an iterator tells.
func all(each iter.Seq2[string, int]) []named {
	var l []named
	for name, n := range each {
		l = append(l, named{name, n})
	}
	return l
}

// has fails unless c answers these numbers, in all its ways.
func has(t *testing.T, c *counts.Counts, want []int) {
	t.Helper()
	if !slices.Equal(c.List(), want) {
		t.Errorf("List = %v; want %v", c.List(), want)
	}
	var each []named
	for reason, n := range want {
		if got := c.Get(reason); got != n {
			t.Errorf("Get(%d) = %d; want %d", reason, got, n)
		}
		if n > 0 {
			each = append(each, named{words[reason], n})
		}
	}
	if got := all(c.Each()); !slices.Equal(got, each) {
		t.Errorf("Each = %v; want %v", got, each)
	}
	for _, reason := range none {
		if got := c.Get(reason); got != 0 {
			t.Errorf("Get(%d) = %d", reason, got)
		}
	}
}

// P31.1: the numbers of the reasons are those that the names go with.
func TestName(t *testing.T) {
	if len(words) != api.Drops {
		t.Fatalf("%d names, %d reasons", len(words), api.Drops)
	}
	for reason, want := range words {
		if got := counts.Name(reason); got != want {
			t.Errorf("Name(%d) = %q; want %q", reason, got, want)
		}
	}
	for reason, want := range map[int]string{
		api.DropNone: "", api.DropForm: "form", api.DropSource: "source", api.DropTTL: "ttl", api.DropProto: "proto",
		api.DropQuota: "quota", api.DropFull: "full", api.DropPool: "pool", api.DropState: "state", api.DropBinding: "binding",
		api.DropFilter: "filter", api.DropLong: "long", api.DropOverlap: "overlap", api.DropWay: "way", api.Drops: "",
	} {
		if got := counts.Name(reason); got != want {
			t.Errorf("Name(%d) = %q; want %q", reason, got, want)
		}
	}
	for _, reason := range none {
		if got := counts.Name(reason); got != "" {
			t.Errorf("Name(%d) = %q", reason, got)
		}
	}
}

// P31.1: a new one has none of any.
func TestNew(t *testing.T) {
	has(t, counts.New(), make([]int, api.Drops))
}

// P31.1: the chapter's example.
func TestExample(t *testing.T) {
	c := counts.New()
	if !c.Add(1) || !c.Add(1) || c.Get(1) != 2 {
		t.Errorf("Get(1) = %d", c.Get(1))
	}
}

// P31.1: one more of each reason changes that one alone.
func TestAddEach(t *testing.T) {
	for reason := api.DropForm; reason <= api.DropWay; reason++ {
		c, want := counts.New(), make([]int, api.Drops)
		for n := 1; n <= 3; n++ {
			want[reason] = n
			if !c.Add(reason) {
				t.Errorf("Add(%d) is no", reason)
			}
			has(t, c, want)
		}
	}
}

// P31.1: what is no reason to drop is not counted.
func TestAddNone(t *testing.T) {
	c, want := counts.New(), make([]int, api.Drops)
	for _, reason := range none {
		if c.Add(reason) {
			t.Errorf("Add(%d) is yes", reason)
		}
		has(t, c, want)
	}
	c.Add(api.DropWay)
	want[api.DropWay] = 1
	for _, reason := range none {
		if c.Add(reason) {
			t.Errorf("Add(%d) is yes", reason)
		}
		has(t, c, want)
	}
}

// P31.1: Each goes by the numbers of the reasons, not by when they were met, nor by their names.
func TestEachOrder(t *testing.T) {
	c := counts.New()
	for reason := api.DropWay; reason >= api.DropForm; reason-- {
		for range reason {
			c.Add(reason)
		}
	}
	want := make([]named, 0, api.Drops)
	for reason, name := range words[1:] {
		want = append(want, named{name, reason + 1})
	}
	if got := all(c.Each()); !slices.Equal(got, want) {
		t.Errorf("Each = %v; want %v", got, want)
	}
}

// R7: the same twice, and no more to who ends it; R3: what is counted afterwards is not told.
func TestEachTwice(t *testing.T) {
	c := counts.New()
	c.Add(api.DropForm)
	c.Add(api.DropPool)
	c.Add(api.DropPool)
	each := c.Each()
	want := []named{{"form", 1}, {"pool", 2}}
	for range 2 {
		if got := all(each); !slices.Equal(got, want) {
			t.Errorf("Each = %v; want %v", got, want)
		}
	}
	for stop := 1; stop <= 2; stop++ {
		calls := 0
		each(func(string, int) bool {
			calls++
			return calls < stop
		})
		if calls != stop {
			t.Errorf("who ended at %d was told %d times", stop, calls)
		}
	}
	c.Add(api.DropForm)
	c.Add(api.DropWay)
	if got := all(each); !slices.Equal(got, want) {
		t.Errorf("Each, asked ahead of two more, = %v; want %v", got, want)
	}
}

// R3: whoever gets a list may change it.
func TestListIsNew(t *testing.T) {
	c := counts.New()
	c.Add(api.DropTTL)
	want := c.List()
	got := c.List()
	for i := range got {
		got[i] += 100
	}
	_ = append(got, 5)
	has(t, c, want)
	each := c.Each()
	clear(c.List())
	if got := all(each); !slices.Equal(got, []named{{"ttl", 1}}) {
		t.Errorf("Each = %v", got)
	}
}

// P31.1: each counts on its own.
func TestApart(t *testing.T) {
	a, b := counts.New(), counts.New()
	a.Add(api.DropFull)
	has(t, b, make([]int, api.Drops))
}

// P31.2: all together are how often Add was told yes, at random.
func TestAtRandom(t *testing.T) {
	r := rand.New(rand.NewPCG(31, 2))
	for range 50 {
		c, met, yes := counts.New(), map[int]int{}, 0
		for range 400 {
			reason := r.IntN(api.Drops+6) - 3
			got := c.Add(reason)
			if want := reason >= 1 && reason <= 13; got != want {
				t.Fatalf("Add(%d) = %t", reason, got)
			}
			if got {
				met[reason]++
				yes++
			}
		}
		want, sum := make([]int, api.Drops), 0
		for reason, n := range met {
			want[reason] = n
		}
		has(t, c, want)
		for _, n := range c.List() {
			sum += n
		}
		if sum != yes {
			t.Errorf("all together are %d; want %d", sum, yes)
		}
		told := maps.Collect(c.Each())
		if len(told) != len(met) {
			t.Errorf("Each tells of %d; want %d", len(told), len(met))
		}
	}
}

// R5, P31.1: of what no call made.
func TestNotMade(t *testing.T) {
	for _, c := range []*counts.Counts{nil, {}, new(counts.Counts)} {
		for _, reason := range append([]int{1, 2, 13}, none...) {
			if c.Add(reason) || c.Get(reason) != 0 {
				t.Errorf("Add(%d) is yes, or Get %d", reason, c.Get(reason))
			}
		}
		if got := c.List(); len(got) != 0 {
			t.Errorf("List = %v", got)
		}
		if got := all(c.Each()); len(got) != 0 {
			t.Errorf("Each = %v", got)
		}
	}
}
