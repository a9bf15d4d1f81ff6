package bound_test

import (
	"testing"

	"forebay/api"
	"forebay/bound"
	"forebay/serial"
)

const (
	least = -1 << 63
	most  = 1<<63 - 1
)

// Promise 35.1: frames and deques.
func TestFrames(t *testing.T) {
	for n, want := range map[int]int{0: 1, 1: 1, 2: 2, 77: 77, -1: 1, least: 1, 100001: 100001} {
		o := serial.Outcome{Frames: n, Deepest: 3, Steps: 9}
		if got := bound.Frames(o); got != want {
			t.Error(n, got)
		}
		if got := bound.Deque(o); got != want+2 {
			t.Error(n, got)
		}
	}
	if got := bound.Frames(serial.Outcome{Frames: most}); got != most {
		t.Error(got)
	}
	bound.Deque(serial.Outcome{Frames: most})
}

// Promise 35.1: steps, and what is held.
func TestSteps(t *testing.T) {
	for _, x := range [][4]int{
		{0, 1, 1, 8256},
		{10, 2, 3, 16 * 3 * 9 * (64*12 + 1)},
		{1, 4, 7, 16 * 7 * 25 * (64*3 + 1)},
		{-5, 1, 1, 8256},
		{least, least, least, 8256},
		{0, 0, 1, 8256},
		{0, 1, 0, 8256},
		{0, 1, -3, 8256},
		{0, 64, 1, 16 * 65 * 65 * 129},
		{0, 65, 1, 16 * 65 * 65 * 129},
		{0, 1, 1024, 8256 * 1024},
		{0, 1, 1025, 8256 * 1024},
		{1 << 20, 1, 1, 64 * (64*(1<<20+2) + 1)},
		{1<<20 + 1, 1, 1, 64 * (64*(1<<20+2) + 1)},
		{1 << 20, 64, 1024, 1 << 40},
		{most, most, most, 1 << 40},
		{1 << 20, 15, 16, 1 << 40},
		{1<<20 - 4, 3, 15, 16 * 15 * 16 * (64*(1<<20-2) + 1)},
	} {
		if got := bound.Steps(x[0], x[1], x[2]); got != x[3] {
			t.Error(x, got)
		}
	}
}

// Promise 35.2: parameters, and where there are none.
func TestParams(t *testing.T) {
	o := func(frames, output int) serial.Outcome {
		return serial.Outcome{Status: api.Done, Frames: frames, Output: make([]int, output), Deepest: 1}
	}
	for i, x := range []struct {
		o                 serial.Outcome
		workers, throttle int
		want              api.Params
		e                 api.Errno
	}{
		{o(5, 3), 2, 4, api.Params{Workers: 2, Throttle: 4, Frames: 5, Deque: 7, Output: 3}, api.OK},
		{o(0, 0), 1, 1, api.Params{Workers: 1, Throttle: 1, Frames: 1, Deque: 3}, api.OK},
		{o(254, 1000), 64, 64, api.Params{Workers: 64, Throttle: 64, Frames: 254, Deque: 256, Output: 1000}, api.OK},
		{o(255, 0), 1, 1, api.Params{}, api.ErrRange},
		{o(256, 0), 1, 1, api.Params{}, api.ErrRange},
		{o(257, 0), 1, 1, api.Params{}, api.ErrRange},
		{o(most, 0), 1, 1, api.Params{}, api.ErrRange},
		{o(5, 1001), 1, 1, api.Params{}, api.ErrRange},
		{o(5, 3), 0, 1, api.Params{}, api.ErrRange},
		{o(5, 3), 65, 1, api.Params{}, api.ErrRange},
		{o(5, 3), 1, 0, api.Params{}, api.ErrRange},
		{o(5, 3), 1, 65, api.Params{}, api.ErrRange},
		{o(5, 3), least, most, api.Params{}, api.ErrRange},
		{serial.Outcome{Status: api.Faulted, Frames: 3}, 1, 1, api.Params{Workers: 1, Throttle: 1, Frames: 3, Deque: 5}, api.OK},
	} {
		if got, e := bound.Params(x.o, x.workers, x.throttle); got != x.want || e != x.e {
			t.Error(i, got, e)
		}
	}
}

// Promise 35.3: what is enough for some is enough for fewer.
func TestFewer(t *testing.T) {
	some := []int{-1, 0, 1, 2, 5, 30, 64, 100, 1000, 1 << 20, most}
	for i, a := range some {
		for _, b := range some[i:] {
			for _, w := range some {
				for _, x := range some {
					if bound.Steps(a, w, x) > bound.Steps(b, w, x) || bound.Steps(w, a, x) > bound.Steps(w, b, x) || bound.Steps(w, x, a) > bound.Steps(w, x, b) {
						t.Error(a, b, w, x)
					}
				}
			}
		}
	}
}
