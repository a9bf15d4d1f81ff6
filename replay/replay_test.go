package replay_test

import (
	"reflect"
	"slices"
	"strings"
	"testing"

	"forebay/api"
	"forebay/asm"
	"forebay/machine"
	"forebay/replay"
)

const (
	least = -1 << 63
	most  = 1<<63 - 1
)

// read is the program that is written, with semicolons between its lines.
func read(t testing.TB, text string) api.Program {
	t.Helper()
	p, e := asm.Read(strings.ReplaceAll(text, "; ", "\n"))
	if e != api.OK {
		t.Fatal(e)
	}
	return p
}

// by is a script of workers.
func by(workers ...int) []api.Pick {
	var l []api.Pick
	for _, n := range workers {
		l = append(l, api.Pick{Worker: n})
	}
	return l
}

// times is a pick, so often.
func times(x api.Pick, n int) []api.Pick { return slices.Repeat([]api.Pick{x}, n) }

// Promises 43.1, 43.4: scripts in short.
func TestPack(t *testing.T) {
	x, y := api.Pick{Worker: 1}, api.Pick{Worker: 255, Victim: 7}
	for i, c := range []struct {
		l    []api.Pick
		want string
	}{
		{nil, ""},
		{times(x, 1), "\x01\x00\x00"},
		{times(x, 2), "\x01\x00\x01"},
		{times(x, 256), "\x01\x00\xff"},
		{times(x, 257), "\x01\x00\xff\x01\x00\x00"},
		{times(x, 600), "\x01\x00\xff\x01\x00\xff\x01\x00\x57"},
		{slices.Concat(times(y, 3), times(x, 1), times(y, 1)), "\xff\x07\x02\x01\x00\x00\xff\x07\x00"},
		{[]api.Pick{{Worker: 1, Victim: 2}, {Worker: 1, Victim: 3}, {Worker: 2, Victim: 3}}, "\x01\x02\x00\x01\x03\x00\x02\x03\x00"},
	} {
		before := slices.Clone(c.l)
		s, e := replay.Pack(c.l)
		if s != c.want || e != api.OK || !slices.Equal(c.l, before) {
			t.Errorf("%d: %q, %v", i, s, e)
		}
		if l, e := replay.Unpack(c.want); !slices.Equal(l, c.l) || e != api.OK {
			t.Error(i, l, e)
		}
	}
	for _, n := range []int{-1, 256, least, most} {
		for _, l := range [][]api.Pick{{{Worker: n}}, {{Victim: n}}, append(times(x, 9), api.Pick{Worker: n, Victim: n}), {{Victim: n}, {}}} {
			if s, e := replay.Pack(l); s != "" || e != api.ErrRange {
				t.Errorf("%d: %q, %v", n, s, e)
			}
		}
	}
}

// Promise 43.1: what is not three bytes by three, and what Pack would have written otherwise.
func TestUnpack(t *testing.T) {
	for _, s := range []string{"a", "ab", "abcd", "abcde", "\x00\x00\x00\x00"} {
		if l, e := replay.Unpack(s); len(l) != 0 || e != api.ErrShort {
			t.Error(s, l, e)
		}
	}
	if l, e := replay.Unpack("\x01\x02\x00\x01\x02\x01"); !slices.Equal(l, times(api.Pick{Worker: 1, Victim: 2}, 3)) || e != api.OK {
		t.Error(l, e)
	}
}

// pipe is a pipeline of two iterations, that emit at a stage.
const pipe = "memory 0; function; pipe 1; ret; function; set 1 1; add 0 0 1; set 2 2; less 3 2 0; zero 3 6; break; wait 1; emit 0; ret"

// plain are parameters of so many workers.
func plain(workers int) api.Params {
	return api.Params{Workers: workers, Throttle: 2, Frames: 20, Deque: 20, Output: 20}
}

// Promise 43.2: what is wrong.
func TestWrong(t *testing.T) {
	for i, x := range []struct {
		p     api.Program
		input []int
		q     api.Params
		want  api.Errno
	}{
		{api.Program{}, nil, plain(1), api.ErrNone},
		{read(t, pipe), nil, plain(0), api.ErrRange},
		{read(t, pipe), []int{1}, plain(1), api.ErrLong},
	} {
		if n, e := replay.Ended(x.p, x.input, x.q, by(0, 0)); n != 0 || e != x.want {
			t.Error(i, n, e)
		}
		if n, is, e := replay.Part(x.p, x.input, x.q, by(0, 0), nil); n != 0 || is || e != x.want {
			t.Error(i, n, is, e)
		}
	}
}

// Promise 43.2: behind how many picks a run has ended.
func TestEnded(t *testing.T) {
	three := read(t, "memory 0; function; set 1 1; emit 1; ret")
	for i, x := range []struct {
		p      api.Program
		script []api.Pick
		want   int
	}{
		{three, nil, 0},
		{three, by(0), 1},
		{three, by(0, 0), 2},
		{three, by(0, 0, 0), 3},
		{three, by(0, 0, 0, 0, 0), 3},
		{three, by(1, 0, 1, 0, 1, 1, 0, 0), 7},
		{three, by(1, 1, 1), 3},
		{read(t, "memory 0; function; div 0 0 0; ret"), by(1, 1, 0, 0), 3},
		{read(t, "memory 0; function; jump 0"), times(api.Pick{}, 700), 700},
	} {
		if n, e := replay.Ended(x.p, nil, plain(2), x.script); n != x.want || e != api.OK {
			t.Error(i, n, e)
		}
	}
}

// Promise 43.2: where two runs part.
func TestPart(t *testing.T) {
	three := read(t, "memory 0; function; set 1 1; emit 1; ret")
	for i, x := range []struct {
		a, b []api.Pick
		want int
		is   bool
	}{
		{nil, nil, 0, false},
		{by(0), by(0), 0, false},
		{by(0), nil, 1, true},
		{nil, by(0, 0), 1, true},
		{by(0, 0), by(0), 2, true},
		{by(0, 0), by(0, 0, 0, 0), 3, true},
		{by(0, 2, 0), by(0, 0, 0), 0, false}, // the same worker
		{by(0, 1), by(0, 0), 2, true},        // the worker 1 has probed
		{by(1, 0), by(0, 1), 1, true},
		{by(0, 0, 0, 1), by(0, 0, 0, 0), 0, false}, // the run has ended
		{by(0, 0, 1), by(0, 0, 0), 3, true},
		{[]api.Pick{{Worker: 1}}, []api.Pick{{Worker: 1, Victim: 1}}, 1, true}, // whom it would steal from
		{[]api.Pick{{Worker: 1}, {Worker: 1}}, []api.Pick{{Worker: 1}, {Worker: 1, Victim: 1}}, 0, false},
	} {
		for range 2 {
			n, is, e := replay.Part(three, nil, plain(2), x.a, x.b)
			if n != x.want || is != x.is || e != api.OK {
				t.Error(i, n, is, e)
			}
			x.a, x.b = x.b, x.a
		}
	}
}

// Promise 43.2: runs part where their workers or statuses first differ.
func TestPartFirst(t *testing.T) {
	p := read(t, "memory 0; function; spawn 1; ret; function; ret")
	q := plain(2)
	for seed := range uint32(40) {
		x := seed
		var a, b []api.Pick
		for range 60 {
			x = x*1664525 + 1013904223
			a = append(a, api.Pick{Worker: int(x>>9) % 2, Victim: int(x>>20) % 2})
			x = x*1664525 + 1013904223
			b = append(b, api.Pick{Worker: int(x>>9) % 2, Victim: int(x>>20) % 2})
		}
		for n := range 20 { // what they have alike at first
			b[n] = a[n]
		}
		m, _ := machine.New(p, nil, q)
		n, _ := machine.New(p, nil, q)
		want := 0
		for i := range a {
			m.Step(a[i])
			n.Step(b[i])
			if !reflect.DeepEqual(m.Workers(), n.Workers()) || m.Result().Status != n.Result().Status {
				want = i + 1
				break
			}
		}
		if got, is, e := replay.Part(p, nil, q, a, b); got != want || is != (want > 0) || e != api.OK {
			t.Error(seed, got, is, want)
		}
	}
}

// Promise 43.3: with how many picks a script repeats itself.
func TestLoops(t *testing.T) {
	for i, x := range []struct {
		l    []api.Pick
		want int
	}{
		{nil, 0},
		{by(1), 1},
		{by(1, 1), 1},
		{by(1, 2), 2},
		{by(1, 2, 1), 2},
		{by(1, 2, 1, 2), 2},
		{by(1, 2, 1, 2, 1), 2},
		{by(1, 1, 2), 3},
		{by(1, 1, 2, 1), 3},
		{by(1, 1, 2, 1, 1), 3},
		{by(1, 1, 2, 1, 1, 1), 4},
		{by(1, 1, 2, 1, 1, 2, 1, 1, 1), 7},
		{by(1, 1, 2, 1, 1, 2, 2), 7},
		{by(0, 0, 0, 0, 1), 5},
		{[]api.Pick{{Worker: 1}, {Worker: 1, Victim: 1}, {Worker: 1}}, 2},
		{times(api.Pick{Worker: 3}, 500), 1},
		{by(1, 2, 3, 4, 5), 5},
	} {
		if got := replay.Loops(x.l); got != x.want {
			t.Error(i, got)
		}
	}
	for seed := range uint32(300) {
		x := seed
		var l []api.Pick
		for range 1 + seed%13 {
			x = x*1664525 + 1013904223
			l = append(l, api.Pick{Worker: int(x>>12) % 2})
		}
		want := 1
		for !slices.Equal(l[want:], l[:len(l)-want]) {
			want++
		}
		if got := replay.Loops(l); got != want {
			t.Error(l, got, want)
		}
	}
}

// Promise 43.4: there and back; runs do not part while their scripts are the same.
func TestBack(t *testing.T) {
	p := read(t, pipe)
	for seed := range uint32(60) {
		x := seed
		var l []api.Pick
		for range seed * 7 {
			x = x*1664525 + 1013904223
			n := 1 + int(x>>9)%9
			l = append(l, times(api.Pick{Worker: int(x>>14) % 256, Victim: int(x>>22) % 256}, n*n*n%300)...)
		}
		s, e := replay.Pack(l)
		if e != api.OK {
			t.Fatal(e)
		}
		back, e := replay.Unpack(s)
		if e != api.OK || !slices.Equal(back, l) {
			t.Fatal(seed)
		}
		if again, _ := replay.Pack(back); again != s {
			t.Fatal(seed)
		}
		l = l[:min(len(l), 500)]
		if n, is, e := replay.Part(p, nil, plain(3), l, l); n != 0 || is || e != api.OK {
			t.Fatal(seed, n, is, e)
		}
		if len(l) == 500 {
			other := append(slices.Clone(l[:200]), by(0, 1, 2, 0, 1, 2)...)
			if n, is, _ := replay.Part(p, nil, plain(3), l, other); is && n <= 200 {
				t.Fatal(seed, n)
			}
		}
	}
}
