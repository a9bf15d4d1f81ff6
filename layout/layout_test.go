package layout_test

import (
	"testing"

	"forebay/api"
	"forebay/layout"
)

const (
	least = -1 << 63
	most  = 1<<63 - 1
)

// answers are all that a plan tells, of some worker, slot, frame and iteration.
func answers(p layout.Plan, worker, n, id, iter int) [10]int {
	return [10]int{
		p.Size(), p.Base(worker), p.Slot(worker, n), p.Frame(id), p.Room(), p.Nap(id),
		p.Counter(id, iter), p.Status(id, iter), p.Link(id, iter), p.Done(id, iter),
	}
}

// Promise 11.1: plans that may be, and that may not: of the latter all else is 0.
func TestCheck(t *testing.T) {
	for _, p := range []layout.Plan{{1, 1, 1, 2}, {64, 256, 64, 256}, {2, 3, 4, 5}} {
		if e := p.Check(); e != api.OK {
			t.Error(p, e)
		}
	}
	for _, p := range []layout.Plan{
		{}, {0, 1, 1, 2}, {65, 1, 1, 2}, {1, 0, 1, 2}, {1, 257, 1, 2}, {1, 1, 0, 2}, {1, 1, 65, 2}, {1, 1, 1, 1}, {1, 1, 1, 257},
		{least, 1, 1, 2}, {1, most, 1, 2}, {1, 1, -1, 2}, {1, 1, 1, least}, {most, most, most, most},
	} {
		if e := p.Check(); e != api.ErrRange {
			t.Error(p, e)
		}
		for _, n := range []int{0, 1, 5, -1, least, most} {
			if got := answers(p, n, n, n, n); got != ([10]int{}) {
				t.Error(p, n, got)
			}
		}
	}
}

// Promises 11.1, 11.2: where all is, in a plan that is reckoned by hand.
func TestPlaces(t *testing.T) {
	small := layout.Plan{Workers: 1, Frames: 1, Throttle: 1, Deque: 2}
	if small.Size() != 16 || small.Room() != 10 || small.Frame(1) != 6 || small.Nap(1) != 7 {
		t.Error(small.Size(), small.Room(), small.Frame(1), small.Nap(1))
	}
	p := layout.Plan{Workers: 3, Frames: 4, Throttle: 2, Deque: 5} // deques of 9 words, frames of 14 words from 27 on
	for _, x := range []struct {
		worker, n, id, iter int
		want                [10]int
	}{
		{0, 0, 1, 0, [10]int{83, 0, 4, 27, 14, 28, 29, 30, 31, 32}},
		{1, 4, 2, 1, [10]int{83, 9, 17, 41, 14, 42, 47, 48, 49, 50}},
		{2, 5, 4, 2, [10]int{83, 18, 22, 69, 14, 70, 79, 80, 81, 82}},
		{3, 9, 5, 3, [10]int{83, 18, 26, 69, 14, 70, 71, 72, 73, 74}},
		{-1, -1, 0, -1, [10]int{83, 0, 4, 27, 14, 28, 29, 30, 31, 32}},
		{most, most, most, most, [10]int{83, 18, 22 + most%5, 69, 14, 70, 71 + most%3*4, 72 + most%3*4, 73 + most%3*4, 74 + most%3*4}},
		{least, least, least, least, [10]int{83, 0, 4, 27, 14, 28, 29, 30, 31, 32}},
		{1, 1 << 40, 3, 1 << 40, [10]int{83, 9, 13 + (1<<40)%5, 55, 14, 56, 57 + (1<<40)%3*4, 58 + (1<<40)%3*4, 59 + (1<<40)%3*4, 60 + (1<<40)%3*4}},
	} {
		if got := answers(p, x.worker, x.n, x.id, x.iter); got != x.want {
			t.Errorf("%v: %v", x, got)
		}
	}
	great := layout.Plan{Workers: 64, Frames: 256, Throttle: 64, Deque: 256}
	if great.Size() != 64*260+256*262 {
		t.Error(great.Size())
	}
}

// Promise 11.3: no two are the same word, and all words are some.
func TestApart(t *testing.T) {
	for _, p := range []layout.Plan{{1, 1, 1, 2}, {2, 3, 1, 4}, {4, 2, 5, 3}, {3, 7, 2, 9}} {
		count := make([]int, p.Size())
		for w := range p.Workers {
			for i := range 4 { // Head, Tail, Next, Serving
				count[p.Base(w)+i]++
			}
			for n := range p.Deque {
				count[p.Slot(w, n)]++
				if p.Slot(w, n) != p.Slot(w, n+p.Deque) {
					t.Error(p, w, n)
				}
			}
		}
		for id := 1; id <= p.Frames; id++ {
			count[p.Frame(id)]++
			count[p.Nap(id)]++
			for iter := range p.Throttle + 1 {
				for _, at := range []int{p.Counter(id, iter), p.Status(id, iter), p.Link(id, iter), p.Done(id, iter)} {
					count[at]++
				}
				if p.Counter(id, iter) != p.Counter(id, iter+p.Throttle+1) {
					t.Error(p, id, iter)
				}
			}
		}
		for at, n := range count {
			if n != 1 {
				t.Errorf("%v: the word %d stands for %d", p, at, n)
			}
		}
	}
}
