package sched_test

import (
	"slices"
	"testing"

	"forebay/api"
	"forebay/sched"
)

const (
	least = -1 << 63
	most  = 1<<63 - 1
)

// of are the workers of a script.
func of(l []api.Pick) []int {
	var workers []int
	for _, x := range l {
		workers = append(workers, x.Worker)
	}
	return workers
}

// by is a script of workers.
func by(workers ...int) []api.Pick {
	var l []api.Pick
	for _, n := range workers {
		l = append(l, api.Pick{Worker: n})
	}
	return l
}

// Promise 36.1: round and round.
func TestRound(t *testing.T) {
	if l := sched.Round(2, 0, 3); !slices.Equal(l, []api.Pick{{}, {Worker: 1}, {}}) {
		t.Error(l)
	}
	if l := sched.Round(3, -7, 7); !slices.Equal(of(l), []int{0, 1, 2, 0, 1, 2, 0}) || l[5].Victim != -7 || l[0].Victim != -7 {
		t.Error(l)
	}
	for _, x := range [][3]int{{0, 3, 1}, {-4, 3, 1}, {least, 3, 1}, {1, 3, 1}, {64, 130, 64}, {65, 130, 64}, {most, 130, 64}} {
		l := sched.Round(x[0], most, x[1])
		if len(l) != x[1] {
			t.Error(x, len(l))
		}
		for i, p := range l {
			if p != (api.Pick{Worker: i % x[2], Victim: most}) {
				t.Error(x, i, p)
			}
		}
	}
	for steps, want := range map[int]int{0: 0, -1: 0, least: 0, 1 << 20: 1 << 20, 1<<20 + 1: 1 << 20, most: 1 << 20} {
		if n := len(sched.Round(2, 0, steps)); n != want {
			t.Error(steps, n)
		}
		if n := len(sched.Turns(2, steps, "ab")); n != want {
			t.Error(steps, n)
		}
	}
}

// Promise 36.1: each worker once in each block, on or back.
func TestTurns(t *testing.T) {
	for i, x := range []struct {
		workers, steps int
		order          string
		want           []int
		victims        []int
	}{
		{3, 8, "", []int{0, 1, 2, 0, 1, 2, 0, 1}, []int{0, 0, 0, 0, 0, 0, 0, 0}},
		{3, 9, "\x01\x02", []int{1, 2, 0, 2, 0, 1, 1, 2, 0}, []int{1, 1, 1, 2, 2, 2, 1, 1, 1}},
		{3, 6, "\x80\x81", []int{2, 1, 0, 0, 2, 1}, []int{2, 2, 2, 0, 0, 0}}, // 128 is 2, 129 is 0 modulo 3
		{3, 6, "\x7f\xff", []int{1, 2, 0, 0, 2, 1}, []int{1, 1, 1, 0, 0, 0}},
		{2, 5, "a\xc9", []int{1, 0, 1, 0, 1}, []int{1, 1, 1, 1, 1}},
		{1, 3, "\x05\x99", []int{0, 0, 0}, []int{0, 0, 0}},
		{4, 4, "\x82", []int{2, 1, 0, 3}, []int{2, 2, 2, 2}},
		{0, 2, "\x05", []int{0, 0}, []int{0, 0}},
	} {
		l := sched.Turns(x.workers, x.steps, x.order)
		if !slices.Equal(of(l), x.want) {
			t.Error(i, of(l))
		}
		for n, p := range l {
			if p.Victim != x.victims[n] {
				t.Error(i, n, p)
			}
		}
	}
	if l := sched.Turns(most, 65, "\x3f"); l[0].Worker != 63 || l[1].Worker != 0 || l[64].Worker != 63 || l[64].Victim != 63 {
		t.Error(l)
	}
}

// Promise 36.2: windows.
func TestWindow(t *testing.T) {
	for i, x := range []struct {
		l       []api.Pick
		workers int
		window  int
		is      bool
	}{
		{nil, 1, 0, false},
		{by(0), 1, 1, true},
		{by(0, 0, 0), 1, 1, true},
		{by(5, 9, 77), 1, 1, true},
		{by(5, 9, 77), 0, 1, true},
		{by(0), 2, 0, false},
		{by(1, 1), 2, 0, false},
		{by(0, 1), 2, 2, true},
		{by(0, 1, 0, 1, 1, 0), 2, 3, true},
		{by(0, 0, 0, 1), 2, 4, true},
		{by(1, 0, 0, 0), 2, 4, true},
		{by(0, 1, 1, 1, 1, 0), 2, 5, true},
		{by(0, 1, 2, 0, 1, 2), 3, 3, true},
		{by(0, 1, 2, 2, 1, 0), 3, 5, true},
		{by(-1, 1), 2, 2, true},
		{by(least, most), 2, 2, true},
		{by(4, 7), 2, 2, true},
		{by(0, 1, 2), 4, 0, false},
		{sched.Round(64, 0, 64), 99, 64, true},
		{sched.Round(64, 0, 63), 64, 0, false},
	} {
		if n, is := sched.Window(x.l, x.workers); n != x.window || is != x.is {
			t.Error(i, n, is)
		}
		for _, w := range []int{x.window - 1, x.window, x.window + 1, most, least, 0} {
			if got := sched.Fair(x.l, x.workers, w); got != (x.is && x.window <= w) {
				t.Error(i, w, got)
			}
		}
	}
}

// Promise 36.2: a window is the least number of picks that always have each worker among them.
func TestWindowLeast(t *testing.T) {
	for seed := range uint32(300) {
		x := seed
		var l []api.Pick
		for range 14 {
			x = x*1664525 + 1013904223
			l = append(l, api.Pick{Worker: int(x>>9)%4 - 1})
		}
		want := 0
		for n := len(l); n > 0; n-- {
			good := true
			for i := 0; i+n <= len(l); i++ {
				have := [3]bool{}
				for _, p := range l[i : i+n] {
					have[max(p.Worker, 0)%3] = true
				}
				good = good && have == [3]bool{true, true, true}
			}
			if !good {
				break
			}
			want = n
		}
		if n, is := sched.Window(l, 3); n != want || is != (want > 0) {
			t.Fatal(seed, n, is, want)
		}
	}
}

// Promise 36.3: how many picks each worker has.
func TestCount(t *testing.T) {
	if got := sched.Count(by(0, 1, 2, 3, 4, -5, 1), 3); !slices.Equal(got, []int{3, 3, 1}) {
		t.Error(got)
	}
	if got := sched.Count(nil, 2); !slices.Equal(got, []int{0, 0}) {
		t.Error(got)
	}
	if got := sched.Count(by(3, most), -9); !slices.Equal(got, []int{2}) {
		t.Error(got)
	}
	if got := sched.Count(nil, most); len(got) != 64 {
		t.Error(got)
	}
}

// Promise 36.3: scripts as bytes.
func TestBytes(t *testing.T) {
	l := []api.Pick{{Worker: 1, Victim: 2}, {Worker: 255, Victim: 256}, {Worker: -1, Victim: 0x1234}, {Worker: least, Victim: most}}
	if got := sched.Bytes(l); got != "\x01\x02\xff\x00\xff\x34\x00\xff" {
		t.Errorf("%q", got)
	}
	if got := sched.Bytes(nil); got != "" {
		t.Errorf("%q", got)
	}
	for s, want := range map[string][]api.Pick{
		"":                 nil,
		"\x05":             {{Worker: 5}},
		"\x05\x06":         {{Worker: 5, Victim: 6}},
		"\xff\x80\x00":     {{Worker: 255, Victim: 128}, {}},
		"\x00\x01\x02\x03": {{Victim: 1}, {Worker: 2, Victim: 3}},
	} {
		if got := sched.Read(s); !slices.Equal(got, want) {
			t.Errorf("%q: %v", s, got)
		}
	}
}

// Promise 36.4: turns are fair; what is read is what was written.
func TestFair(t *testing.T) {
	for workers := 1; workers <= 9; workers++ {
		for seed := range 40 {
			order := string([]byte{byte(seed * 37), byte(seed * 91), byte(seed * seed), 200, byte(seed)})
			l := sched.Turns(workers, workers*20, order)
			if !sched.Fair(l, workers, 2*workers-1) {
				n, is := sched.Window(l, workers)
				t.Error(workers, seed, n, is)
			}
			for i := 0; i < len(l); i += workers {
				for _, n := range sched.Count(l[i:i+workers], workers) {
					if n != 1 {
						t.Fatal(workers, seed, i)
					}
				}
			}
			if got := sched.Read(sched.Bytes(l)); !slices.Equal(got, l) {
				t.Error(got)
			}
		}
	}
}
