package store_test

import (
	"slices"
	"testing"

	"forebay/store"
)

const (
	least = -1 << 63
	most  = 1<<63 - 1
)

// Promise 9.1: how many words there are.
func TestSize(t *testing.T) {
	for size, want := range map[int]int{0: 0, 1: 1, 7: 7, -1: 0, least: 0, 1 << 20: 1 << 20, 1<<20 + 1: 1 << 20, most: 1 << 20} {
		s := store.New(size)
		if s.Size() != want || len(s.All()) != want {
			t.Error(size, s.Size(), len(s.All()))
		}
		for _, n := range s.All() {
			if n != 0 {
				t.Fatal(size, n)
			}
		}
		if _, ok := s.Load(want); ok {
			t.Error(size)
		}
	}
}

// Promise 9.2: what each access does and answers.
func TestWords(t *testing.T) {
	s := store.New(3)
	if !s.Store(1, 7) || !slices.Equal(s.All(), []int{0, 7, 0}) {
		t.Error(s.All())
	}
	if n, ok := s.Load(1); n != 7 || !ok {
		t.Error(n, ok)
	}
	if n, ok := s.Load(2); n != 0 || !ok {
		t.Error(n, ok)
	}
	if n, ok := s.Add(1, -9); n != 7 || !ok || !slices.Equal(s.All(), []int{0, -2, 0}) {
		t.Error(n, ok, s.All())
	}
	if n, ok := s.Swap(0, 0, 5); n != 0 || !ok || !slices.Equal(s.All(), []int{5, -2, 0}) {
		t.Error(n, ok, s.All())
	}
	if n, ok := s.Swap(0, 0, 6); n != 5 || !ok || !slices.Equal(s.All(), []int{5, -2, 0}) {
		t.Error(n, ok, s.All())
	}
	s.Store(2, most)
	if n, ok := s.Add(2, 2); n != most || !ok || !slices.Equal(s.All(), []int{5, -2, least + 1}) {
		t.Error(n, ok, s.All())
	}
}

// Promise 9.1: what All answers is nobody else's.
func TestAllApart(t *testing.T) {
	s := store.New(2)
	s.All()[0] = 9
	l := s.All()
	s.Store(1, 3)
	if !slices.Equal(l, []int{0, 0}) || !slices.Equal(s.All(), []int{0, 3}) {
		t.Error(l, s.All())
	}
}

// Promise 9.2: words that there are not.
func TestBeyond(t *testing.T) {
	s := store.New(2)
	seen := 0
	s.Hook(func(int, bool) { seen++ })
	for _, at := range []int{-1, 2, 3, least, most} {
		a, aok := s.Load(at)
		bok := s.Store(at, 5)
		c, cok := s.Add(at, 5)
		d, dok := s.Swap(at, 0, 5)
		if a != 0 || aok || bok || c != 0 || cok || d != 0 || dok {
			t.Error(at)
		}
	}
	if seen != 0 || !slices.Equal(s.All(), []int{0, 0}) {
		t.Error(seen, s.All())
	}
}

// Promise 9.1: a hook sees each access, before it is done.
func TestHook(t *testing.T) {
	type look struct {
		at    int
		write bool
		was   int
	}
	s := store.New(4)
	var l []look
	hook := func(at int, write bool) { l = append(l, look{at, write, s.All()[at]}) }
	s.Store(0, 1)
	s.Hook(hook)
	s.Load(0)
	s.Store(0, 2)
	s.Add(0, 3)
	s.Swap(0, 5, 6)
	s.Swap(0, 5, 7)
	s.Fill(0, 4, 8)
	s.Load(3)
	s.All()
	s.Size()
	want := []look{{0, false, 1}, {0, true, 1}, {0, true, 2}, {0, true, 5}, {0, true, 6}, {3, false, 8}}
	if !slices.Equal(l, want) {
		t.Error(l)
	}
	other := 0
	s.Hook(func(int, bool) { other++ })
	s.Load(1)
	s.Hook(nil)
	s.Load(1)
	s.Store(1, 1)
	if len(l) != len(want) || other != 1 {
		t.Error(len(l), other)
	}
}

// Promise P1: a hook that panics lets the access be done.
func TestHookPanics(t *testing.T) {
	s := store.New(1)
	s.Hook(func(int, bool) { panic("no") })
	if !s.Store(0, 4) {
		t.Error("not stored")
	}
	if n, ok := s.Load(0); n != 4 || !ok {
		t.Error(n, ok)
	}
}

// Promise 9.2: what Fill fills.
func TestFill(t *testing.T) {
	for _, x := range []struct {
		at, many int
		want     []int
	}{
		{0, 4, []int{9, 9, 9, 9}},
		{1, 2, []int{1, 9, 9, 4}},
		{2, 100, []int{1, 2, 9, 9}},
		{2, most, []int{1, 2, 9, 9}},
		{-2, 3, []int{9, 2, 3, 4}},
		{-2, 2, []int{1, 2, 3, 4}},
		{-2, most, []int{9, 9, 9, 9}},
		{least, most, []int{1, 2, 3, 4}},
		{-5, 100, []int{9, 9, 9, 9}},
		{4, 1, []int{1, 2, 3, 4}},
		{most, most, []int{1, 2, 3, 4}},
		{0, 0, []int{1, 2, 3, 4}},
		{1, -1, []int{1, 2, 3, 4}},
		{1, least, []int{1, 2, 3, 4}},
		{3, 1, []int{1, 2, 3, 9}},
	} {
		s := store.New(4)
		for i := range 4 {
			s.Store(i, i+1)
		}
		s.Fill(x.at, x.many, 9)
		if !slices.Equal(s.All(), x.want) {
			t.Errorf("Fill(%d, %d): %v", x.at, x.many, s.All())
		}
	}
}

// Promise 9.2: of nil.
func TestNil(t *testing.T) {
	var s *store.Store
	s.Hook(func(int, bool) {})
	s.Fill(0, 1, 1)
	_, a := s.Load(0)
	_, b := s.Add(0, 1)
	_, c := s.Swap(0, 0, 1)
	if s.Size() != 0 || len(s.All()) != 0 || a || b || c || s.Store(0, 1) {
		t.Error("of nil")
	}
	z := new(store.Store)
	z.Fill(0, 5, 1)
	if z.Size() != 0 || z.Store(0, 1) {
		t.Error("of nothing")
	}
}

// Promise 9.3: a word is what was stored last; what others were stays.
func TestStays(t *testing.T) {
	s := store.New(16)
	model := make([]int, 16)
	seed := uint32(1)
	next := func(n int) int {
		seed = seed*1664525 + 1013904223
		return int(seed>>8) % n
	}
	for range 5000 {
		at, n := next(16), next(5)
		switch next(4) {
		case 0:
			s.Store(at, n)
			model[at] = n
		case 1:
			if was, _ := s.Add(at, n-2); was != model[at] {
				t.Fatal(was)
			}
			model[at] += n - 2
		case 2:
			old := next(5)
			if was, _ := s.Swap(at, old, n); was != model[at] {
				t.Fatal(was)
			}
			if model[at] == old {
				model[at] = n
			}
		case 3:
			if is, _ := s.Load(at); is != model[at] {
				t.Fatal(is)
			}
		}
		if !slices.Equal(s.All(), model) {
			t.Fatal(s.All(), model)
		}
	}
}
