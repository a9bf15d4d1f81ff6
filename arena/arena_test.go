package arena_test

import (
	"slices"
	"testing"

	"forebay/arena"
)

const (
	least = -1 << 63
	most  = 1<<63 - 1
)

// take takes a number, and holds it against the one that is to come.
func take(t *testing.T, a *arena.Arena, want int) {
	t.Helper()
	if id, ok := a.Take(); id != want || ok != (want != 0) {
		t.Errorf("took %d, %v; want %d", id, ok, want)
	}
}

// all holds those that are taken against a list.
func all(t *testing.T, a *arena.Arena, want ...int) {
	t.Helper()
	if got := slices.Collect(a.All()); !slices.Equal(got, want) || a.Used() != len(want) {
		t.Errorf("%v, %d; want %v", got, a.Used(), want)
	}
}

// Promise 10.1: the last one given back comes first, then the least one that was never taken.
func TestTake(t *testing.T) {
	a := arena.New(4)
	all(t, a)
	take(t, a, 1)
	take(t, a, 2)
	take(t, a, 3)
	all(t, a, 1, 2, 3)
	if !a.Give(1) || !a.Give(3) || !a.Give(2) {
		t.Error("not given back")
	}
	all(t, a)
	take(t, a, 2)
	take(t, a, 3)
	if !a.Give(2) {
		t.Error("not given back")
	}
	take(t, a, 2)
	take(t, a, 1)
	take(t, a, 4)
	take(t, a, 0)
	take(t, a, 0)
	all(t, a, 1, 2, 3, 4)
	if !a.Give(4) {
		t.Error("not given back")
	}
	take(t, a, 4)
	take(t, a, 0)
}

// Promise 10.1: what is given back must be taken.
func TestGive(t *testing.T) {
	a := arena.New(3)
	for _, id := range []int{0, 1, 2, -1, 4, least, most} {
		if a.Give(id) || a.Held(id) {
			t.Error(id)
		}
	}
	take(t, a, 1)
	take(t, a, 2)
	if !a.Held(1) || !a.Held(2) || a.Held(3) || a.Held(0) {
		t.Error("held")
	}
	if !a.Give(1) || a.Give(1) || a.Held(1) || !a.Held(2) || a.Give(3) {
		t.Error("given")
	}
	take(t, a, 1)
	take(t, a, 3)
	all(t, a, 1, 2, 3)
}

// Promise 10.1: how many there are.
func TestNew(t *testing.T) {
	for n, want := range map[int]int{0: 0, -1: 0, least: 0, 1: 1, 5: 5, 1000: 1000, 1001: 1000, most: 1000} {
		a := arena.New(n)
		got := 0
		for range 1100 {
			if id, ok := a.Take(); ok {
				got++
				if id != got {
					t.Fatal(id, got)
				}
			}
		}
		if got != want || a.Used() != want || a.Peak() != want {
			t.Error(n, got, a.Used(), a.Peak())
		}
	}
}

// Promise 10.1: the most that ever were taken at once.
func TestPeak(t *testing.T) {
	a := arena.New(9)
	if a.Peak() != 0 {
		t.Error(a.Peak())
	}
	for range 3 {
		a.Take()
	}
	a.Give(2)
	a.Give(1)
	if a.Peak() != 3 || a.Used() != 1 {
		t.Error(a.Peak(), a.Used())
	}
	a.Take()
	if a.Peak() != 3 {
		t.Error(a.Peak())
	}
	a.Take()
	a.Take()
	if a.Peak() != 4 {
		t.Error(a.Peak())
	}
	for id := range 10 {
		a.Give(id)
	}
	if a.Peak() != 4 || a.Used() != 0 {
		t.Error(a.Peak(), a.Used())
	}
}

// Promise 10.1: numbers are told as long as they are asked for.
func TestAll(t *testing.T) {
	a := arena.New(9)
	for range 6 {
		a.Take()
	}
	a.Give(2)
	a.Give(5)
	var l []int
	for id := range a.All() {
		l = append(l, id)
		if id == 4 {
			break
		}
	}
	if !slices.Equal(l, []int{1, 3, 4}) {
		t.Error(l)
	}
	tell := a.All()
	a.Take()
	if got := slices.Collect(tell); !slices.Equal(got, []int{1, 3, 4, 5, 6}) {
		t.Error(got)
	}
	for id := range a.All() { // giving back while they are told
		a.Give(id)
	}
	all(t, a)
}

// Promise 10.1: of nil.
func TestNil(t *testing.T) {
	var a *arena.Arena
	take(t, a, 0)
	all(t, a)
	if a.Give(1) || a.Held(1) || a.Used() != 0 || a.Peak() != 0 {
		t.Error("of nil")
	}
	z := new(arena.Arena)
	take(t, z, 0)
	all(t, z)
	z.All()(nil)
}

// Promise 10.2: no number is taken twice; never more than there are.
func TestApart(t *testing.T) {
	a := arena.New(12)
	taken := map[int]bool{}
	peak := 0
	seed := uint32(7)
	for range 4000 {
		seed = seed*1664525 + 1013904223
		if n := int(seed >> 8); n%5 < 3 {
			id, ok := a.Take()
			if ok != (len(taken) < 12) || taken[id] || ok && (id < 1 || id > 12) {
				t.Fatal(id, ok, taken)
			}
			if ok {
				taken[id] = true
			}
			peak = max(peak, len(taken))
		} else {
			id := n/5%14 - 1
			if a.Give(id) != taken[id] {
				t.Fatal(id, taken)
			}
			delete(taken, id)
		}
		if a.Used() != len(taken) || a.Peak() != peak {
			t.Fatal(a.Used(), a.Peak())
		}
		for id := -1; id < 14; id++ {
			if a.Held(id) != taken[id] {
				t.Fatal(id)
			}
		}
	}
}
