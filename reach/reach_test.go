package reach_test

import (
	"testing"

	"forebay/api"
	"forebay/reach"
)

const (
	least = -1 << 63
	most  = 1<<63 - 1
)

// things are of so many, with predecessors that are drawn by a rule.
func things(n int, seed uint32) [][]int {
	preds := make([][]int, n)
	for b := 1; b < n; b++ {
		for range 3 {
			seed = seed*1664525 + 1013904223
			if x := int(seed >> 8); x%3 == 0 {
				preds[b] = append(preds[b], x/3%b)
			}
		}
	}
	return preds
}

// diamond is 1 and 2 behind 0, 3 behind both, and 4 alone.
var diamond = [][]int{nil, {0}, {0}, {1, 2}, {}}

// Promise 31.1: what lies ahead of what.
func TestDiamond(t *testing.T) {
	r, e := reach.New(diamond)
	if e != api.OK || r.Len() != 5 {
		t.Fatal(e)
	}
	before := map[[2]int]bool{{0, 1}: true, {0, 2}: true, {0, 3}: true, {1, 3}: true, {2, 3}: true}
	apart := map[[2]int]bool{{1, 2}: true, {0, 4}: true, {1, 4}: true, {2, 4}: true, {3, 4}: true}
	for a := -1; a < 7; a++ {
		for b := -1; b < 7; b++ {
			if got := r.Before(a, b); got != before[[2]int{a, b}] {
				t.Error("before", a, b, got)
			}
			if got := r.Apart(a, b); got != (apart[[2]int{a, b}] || apart[[2]int{b, a}]) {
				t.Error("apart", a, b, got)
			}
		}
	}
	for b, want := range map[int]int{0: 0, 1: 1, 2: 1, 3: 3, 4: 0, 5: 0, -1: 0, least: 0, most: 0} {
		if got := r.Ahead(b); got != want {
			t.Error(b, got)
		}
	}
	if r.Before(least, most) || r.Apart(least, most) || r.Apart(0, most) {
		t.Error("things that there are not")
	}
}

// Promise 31.1: what is wrong.
func TestWrong(t *testing.T) {
	for i, x := range []struct {
		preds [][]int
		want  api.Errno
	}{
		{nil, api.OK},
		{make([][]int, 1000), api.OK},
		{make([][]int, 1001), api.ErrLong},
		{append([][]int{{5}}, make([][]int, 1000)...), api.ErrLong},
		{[][]int{{0}}, api.ErrRange},
		{[][]int{nil, {-1}}, api.ErrRange},
		{[][]int{nil, {1}}, api.ErrRange},
		{[][]int{nil, {2}, nil}, api.ErrRange},
		{[][]int{nil, {0, 0}}, api.OK},
		{[][]int{nil, {most}}, api.ErrRange},
		{[][]int{nil, {least}}, api.ErrRange},
		{[][]int{nil, {0}, {0, 1, 2}}, api.ErrRange},
	} {
		r, e := reach.New(x.preds)
		if e != x.want || (r == nil) != (e != api.OK) {
			t.Error(i, e)
		}
		n, e := reach.Longest(x.preds)
		if e != x.want || e != api.OK && n != 0 {
			t.Error(i, n, e)
		}
	}
}

// Promise 31.1: of nil, and of nothing; what was handed in isn't kept.
func TestNil(t *testing.T) {
	for _, r := range []*reach.Reach{nil, new(reach.Reach)} {
		if r.Len() != 0 || r.Before(0, 1) || r.Apart(0, 1) || r.Ahead(0) != 0 {
			t.Error(r)
		}
	}
	preds := [][]int{nil, {0}, nil}
	r, _ := reach.New(preds)
	preds[1][0] = 7
	preds[2] = []int{1}
	if !r.Before(0, 1) || r.Before(1, 2) {
		t.Error("kept")
	}
}

// Promise 31.2: the longest row.
func TestLongest(t *testing.T) {
	line := make([][]int, 1000)
	for i := 1; i < 1000; i++ {
		line[i] = []int{i - 1}
	}
	for i, x := range []struct {
		preds [][]int
		want  int
	}{
		{nil, 0}, {make([][]int, 1), 1}, {make([][]int, 9), 1}, {diamond, 3}, {line, 1000}, {[][]int{nil, {0}, {0}, {1}, {2, 0}, {3, 4}, nil}, 4},
	} {
		if got, e := reach.Longest(x.preds); got != x.want || e != api.OK {
			t.Error(i, got, e)
		}
	}
}

// Promise 31.2: orders.
func TestOrder(t *testing.T) {
	for i, x := range []struct {
		l    []int
		want bool
	}{
		{nil, true}, {[]int{0}, true}, {[]int{4}, true}, {[]int{0, 1, 2, 3, 4}, true}, {[]int{4, 0, 2, 1, 3}, true}, {[]int{0, 2, 4}, true},
		{[]int{1}, false}, {[]int{0, 1, 3}, false}, {[]int{0, 3, 1, 2}, false}, {[]int{1, 0}, false}, {[]int{0, 0}, false}, {[]int{0, 1, 1}, false},
		{[]int{4, 4}, false}, {[]int{5}, false}, {[]int{-1}, false}, {[]int{0, 1, 2, 3, 4, 5}, false}, {[]int{least}, false}, {[]int{most}, false},
	} {
		if got := reach.Order(diamond, x.l); got != x.want {
			t.Error(i, x.l, got)
		}
	}
	if reach.Order(nil, []int{0}) || !reach.Order(nil, nil) || reach.Order([][]int{{0}}, []int{0}) || reach.Order([][]int{{-1}}, []int{0}) || reach.Order([][]int{{1}}, []int{0}) || reach.Order([][]int{nil, {2}}, []int{0, 1}) || reach.Order([][]int{{most}}, []int{0}) {
		t.Error("orders of other things")
	}
}

// Promise 31.3: what is before what is before something is before it; nothing is before itself.
func TestRule(t *testing.T) {
	for seed := range uint32(6) {
		preds := things(70+int(seed)*10, seed)
		r, e := reach.New(preds)
		if e != api.OK {
			t.Fatal(e)
		}
		n := r.Len()
		// what lies ahead, found by going back from each thing
		for b := range n {
			seen := make([]bool, n)
			var back func(x int)
			back = func(x int) {
				for _, a := range preds[x] {
					if !seen[a] {
						seen[a] = true
						back(a)
					}
				}
			}
			back(b)
			count := 0
			for a := range n {
				if seen[a] {
					count++
				}
				if r.Before(a, b) != seen[a] || r.Apart(a, b) != (a != b && !r.Before(a, b) && !r.Before(b, a)) {
					t.Fatal(seed, a, b)
				}
			}
			if r.Ahead(b) != count || r.Before(b, b) || r.Apart(b, b) {
				t.Fatal(seed, b)
			}
		}
		for a := range n {
			for b := range n {
				for c := range n {
					if r.Before(a, b) && r.Before(b, c) && !r.Before(a, c) {
						t.Fatal(a, b, c)
					}
				}
			}
		}
	}
}

// Promise 31.1: great ones.
func TestGreat(t *testing.T) {
	r, e := reach.New(things(1000, 9))
	if e != api.OK || r.Len() != 1000 {
		t.Fatal(e)
	}
	line := make([][]int, 1000)
	for i := 1; i < 1000; i++ {
		line[i] = []int{i - 1}
	}
	r, _ = reach.New(line)
	for _, b := range []int{0, 1, 63, 64, 65, 127, 128, 999} {
		if r.Ahead(b) != b || !r.Before(0, 999) || r.Before(999, 0) || r.Before(b, b) {
			t.Error(b, r.Ahead(b))
		}
	}
}
