package sink_test

import (
	"slices"
	"testing"

	"forebay/sink"
)

const (
	least = -1 << 63
	most  = 1<<63 - 1
)

// Promise 22.1: what is emitted stands behind all others, as long as there is room.
func TestEmit(t *testing.T) {
	s := sink.New(3)
	if s.Len() != 0 || len(s.All()) != 0 {
		t.Error(s.All())
	}
	for i, n := range []int{5, -5, most} {
		if !s.Emit(n) || s.Len() != i+1 {
			t.Error(n)
		}
	}
	if s.Emit(6) || s.Emit(7) || s.Len() != 3 || !slices.Equal(s.All(), []int{5, -5, most}) {
		t.Error(s.All())
	}
	s.All()[0] = 9
	if !slices.Equal(s.All(), []int{5, -5, most}) {
		t.Error(s.All())
	}
}

// Promise 22.1: how many may be.
func TestMost(t *testing.T) {
	for n, want := range map[int]int{0: 0, 1: 1, -1: 0, least: 0, 1000: 1000, 1001: 1000, most: 1000} {
		s := sink.New(n)
		emitted := 0
		for i := range 1100 {
			if s.Emit(i) {
				emitted++
			}
		}
		if emitted != want || s.Len() != want || len(s.All()) != want {
			t.Error(n, emitted)
		}
	}
}

// Promise 22.1: of nil, and of nothing.
func TestNil(t *testing.T) {
	var s *sink.Sink
	if s.Emit(1) || s.Len() != 0 || len(s.All()) != 0 {
		t.Error("of nil")
	}
	if z := new(sink.Sink); z.Emit(1) || z.Len() != 0 {
		t.Error("of nothing")
	}
}

// Promise 22.2: beginnings and differences.
func TestLists(t *testing.T) {
	for i, x := range []struct {
		a, b   []int
		begins bool
		at     int
		differ bool
	}{
		{nil, nil, true, 0, false},
		{nil, []int{}, true, 0, false},
		{nil, []int{1}, true, 0, true},
		{[]int{1}, nil, false, 0, true},
		{[]int{1}, []int{1}, true, 0, false},
		{[]int{1, 2}, []int{1, 3}, false, 1, true},
		{[]int{1, 2}, []int{1, 2, 3}, true, 2, true},
		{[]int{1, 2, 3}, []int{1, 2}, false, 2, true},
		{[]int{0}, []int{1, 0}, false, 0, true},
		{[]int{1, 2, 3, 4}, []int{1, 2, 3, 4}, true, 0, false},
		{[]int{1, 2, 9, 4}, []int{1, 2, 3, 9}, false, 2, true},
	} {
		if got := sink.Begins(x.a, x.b); got != x.begins {
			t.Error(i, got)
		}
		if at, differ := sink.Differ(x.a, x.b); at != x.at || differ != x.differ {
			t.Error(i, at, differ)
		}
	}
}

// Promise 22.3: what was emitted later begins with what was emitted ahead.
func TestLater(t *testing.T) {
	s := sink.New(50)
	var all [][]int
	for i := range 60 {
		all = append(all, s.All())
		if s.Emit(i*i-7) != (i < 50) {
			t.Error(i)
		}
	}
	for i, a := range all {
		for _, b := range all[i:] {
			if !sink.Begins(a, b) || len(a) < min(i, 50) {
				t.Error(a, b)
			}
		}
	}
}
