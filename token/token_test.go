package token_test

import (
	"testing"

	"forebay/api"
	"forebay/token"
)

const (
	least = -1 << 63
	most  = 1<<63 - 1
	top   = 1<<20 - 1
)

// Promise 15.1: tokens, and what is held.
func TestOf(t *testing.T) {
	for _, x := range [][4]int{
		{1, 0, 0, 1 << 40},
		{0, 0, 0, 0},
		{0, 0, 5, 5},
		{0, 2, 3, 2<<20 + 3},
		{1, 2, 3, 1<<40 + 2<<20 + 3},
		{7, 0, top, 7<<40 + top},
		{top, top, top, 1<<60 - 1},
		{-1, 2, 3, 2<<20 + 3},
		{1, -2, 3, 1<<40 + 3},
		{1, 2, -3, 1<<40 + 2<<20},
		{1 << 20, 2, 3, top<<40 + 2<<20 + 3},
		{1, 1 << 20, 3, 1<<40 + top<<20 + 3},
		{1, 2, 1 << 20, 1<<40 + 2<<20 + top},
		{most, most, most, 1<<60 - 1},
		{least, least, least, 0},
	} {
		if n := token.Of(x[0], x[1], x[2]); n != x[3] {
			t.Errorf("Of(%d, %d, %d) = %d, want %d", x[0], x[1], x[2], n, x[3])
		}
	}
}

// Promise 15.1: the three numbers of a token, and of what is none.
func TestParts(t *testing.T) {
	for _, x := range []struct {
		t, loop, iter, stage int
		is                   bool
	}{
		{1 << 40, 1, 0, 0, true},
		{1<<40 - 1, 0, top, top, false},
		{0, 0, 0, 0, false},
		{9<<40 + 8<<20 + 7, 9, 8, 7, true},
		{1<<60 - 1, top, top, top, true},
		{1 << 60, top, top, top, false},
		{1<<60 + 5<<40, top, top, top, false},
		{most, top, top, top, false},
		{-1, 0, 0, 0, false},
		{least, 0, 0, 0, false},
		{3<<20 + 4, 0, 3, 4, false},
	} {
		if token.Loop(x.t) != x.loop || token.Iter(x.t) != x.iter || token.Stage(x.t) != x.stage || token.Is(x.t) != x.is {
			t.Error(x, token.Loop(x.t), token.Iter(x.t), token.Stage(x.t), token.Is(x.t))
		}
	}
}

// Promise 15.1: who waits with a token goes on when the one ahead is past its stage.
func TestNext(t *testing.T) {
	for _, x := range []struct {
		t, counter, iter int
		may              bool
	}{
		{token.Of(1, 5, 3), 4, 5, true},
		{token.Of(1, 5, 3), 3, 0, false},
		{token.Of(1, 5, 3), 2, 0, false},
		{token.Of(1, 5, 0), 0, 0, false},
		{token.Of(1, 5, 0), 1, 5, true},
		{token.Of(1, 0, 0), 1, 0, true},
		{token.Of(1, 5, top), api.Past, 5, true},
		{token.Of(1, 5, top), top, 0, false},
		{token.Of(top, top, 9), most, top, true},
		{token.Of(1, 5, 3), least, 0, false},
		{token.Of(0, 5, 3), 4, 0, false},
		{0, 1, 0, false},
		{1 << 60, most, 0, false},
		{-1, most, 0, false},
		{most, most, 0, false},
		{least, most, 0, false},
	} {
		if iter, may := token.Next(x.t, x.counter); iter != x.iter || may != x.may {
			t.Error(x, iter, may)
		}
	}
}

// Promise 15.2: two tokens are the same just if all three numbers are.
func TestApart(t *testing.T) {
	some := []int{0, 1, 2, 1 << 10, 1 << 19, top - 1, top}
	seen := map[int][3]int{}
	for _, loop := range some {
		for _, iter := range some {
			for _, stage := range some {
				n := token.Of(loop, iter, stage)
				if other, ok := seen[n]; ok {
					t.Error(n, other, loop, iter, stage)
				}
				seen[n] = [3]int{loop, iter, stage}
				if token.Loop(n) != loop || token.Iter(n) != iter || token.Stage(n) != stage || token.Is(n) != (loop > 0) {
					t.Error(n, loop, iter, stage)
				}
			}
		}
	}
}
