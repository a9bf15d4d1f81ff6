package join_test

import (
	"slices"
	"testing"

	"forebay/join"
	"forebay/store"
)

// Promise 18.1: each is one access to its word.
func TestJoin(t *testing.T) {
	s := store.New(3)
	var at []int
	s.Hook(func(n int, write bool) {
		at = append(at, n)
		if !write {
			t.Error("only looked at")
		}
	})
	join.Again(s, 1)
	join.Spawn(s, 1)
	join.Spawn(s, 1)
	if !slices.Equal(s.All(), []int{0, 3, 0}) {
		t.Error(s.All())
	}
	if join.Leave(s, 1) || join.Leave(s, 1) || !join.Leave(s, 1) || join.Leave(s, 1) || join.Leave(s, 1) {
		t.Error("the last one")
	}
	if !slices.Equal(s.All(), []int{0, -2, 0}) {
		t.Error(s.All())
	}
	join.Again(s, 1)
	if !slices.Equal(s.All(), []int{0, 1, 0}) || !slices.Equal(at, []int{1, 1, 1, 1, 1, 1, 1, 1, 1}) {
		t.Error(s.All(), at)
	}
	if !join.Leave(s, 1) {
		t.Error("alone")
	}
}

// Promise 18.1: where there is no such word.
func TestNone(t *testing.T) {
	s := store.New(1)
	s.Store(0, 1)
	for _, at := range []int{-1, 1, 1<<63 - 1, -1 << 63} {
		join.Spawn(s, at)
		join.Again(s, at)
		if join.Leave(s, at) {
			t.Error(at)
		}
	}
	join.Spawn(nil, 0)
	join.Again(nil, 0)
	if join.Leave(nil, 0) || !slices.Equal(s.All(), []int{1}) {
		t.Error(s.All())
	}
}

// Promise 18.2: just the last one that leaves is told so, in whatever order they leave.
func TestOrders(t *testing.T) {
	seed := uint32(5)
	next := func(n int) int {
		seed = seed*1664525 + 1013904223
		return int(seed>>9) % n
	}
	for range 2000 {
		s := store.New(1)
		join.Again(s, 0)
		spawns, inside, lasts := next(6), 0, 0
		own := true // who spawns is still in it
		for own || inside > 0 {
			switch {
			case own && spawns > 0 && next(2) == 0:
				join.Spawn(s, 0)
				spawns--
				inside++
			case inside > 0 && next(2) == 0:
				inside--
				if join.Leave(s, 0) {
					lasts++
					if own || inside > 0 {
						t.Fatal("told too soon")
					}
				}
			case own && spawns == 0:
				own = false
				if join.Leave(s, 0) {
					lasts++
					if inside > 0 {
						t.Fatal("told too soon")
					}
				}
			}
		}
		if lasts != 1 {
			t.Fatal(lasts)
		}
	}
}
