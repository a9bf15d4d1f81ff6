package sweep_test

import (
	"slices"
	"strings"
	"testing"

	"forebay/api"
	"forebay/asm"
	"forebay/compare"
	"forebay/sweep"
)

const (
	least = -1 << 63
	most  = 1<<63 - 1
)

// read is the program that is written, with semicolons between its lines.
func read(t testing.TB, text string) api.Program {
	t.Helper()
	p, e := asm.Read(strings.ReplaceAll(text, "; ", "\n"))
	if e != api.OK {
		t.Fatal(e)
	}
	return p
}

// plain are parameters of so many workers.
func plain(workers int) api.Params {
	return api.Params{Workers: workers, Throttle: 3, Frames: 30, Deque: 30, Output: 20}
}

// bytes are so many letters.
func bytes(n int) string {
	b := make([]byte, n)
	for i := range b {
		b[i] = byte(i)
	}
	return string(b)
}

// Promise 44.1: all texts of so many letters.
func TestOrders(t *testing.T) {
	for i, x := range []struct {
		letters string
		length  int
		want    []string
	}{
		{"ab", 2, []string{"aa", "ab", "ba", "bb"}},
		{"ba", 2, []string{"bb", "ba", "ab", "aa"}},
		{"xyz", 1, []string{"x", "y", "z"}},
		{"q", 6, []string{"qqqqqq"}},
		{"abc", 0, []string{""}},
		{"", 0, []string{""}},
		{"", 1, nil},
		{"", 6, nil},
		{"\x00\xff", 3, []string{"\x00\x00\x00", "\x00\x00\xff", "\x00\xff\x00", "\x00\xff\xff", "\xff\x00\x00", "\xff\x00\xff", "\xff\xff\x00", "\xff\xff\xff"}},
		{bytes(256), 0, []string{""}},
	} {
		if l, e := sweep.Orders(x.letters, x.length); !slices.Equal(l, x.want) || e != api.OK {
			t.Errorf("%d: %q, %v", i, l, e)
		}
	}
	l, e := sweep.Orders(bytes(200), 1)
	if len(l) != 200 || e != api.OK || l[199] != "\xc7" || !slices.IsSorted(l) {
		t.Error(len(l), e)
	}
	for i, x := range []struct {
		letters string
		length  int
		want    api.Errno
	}{
		{"ab", -1, api.ErrRange}, {"ab", 7, api.ErrRange}, {"aa", 7, api.ErrRange}, {"ab", least, api.ErrRange}, {"ab", most, api.ErrRange},
		{"aa", 0, api.ErrTwice}, {"aba", 1, api.ErrTwice}, {strings.Repeat("a", 300), 6, api.ErrTwice}, {"\xc3\xa4\xc3\xb6", 1, api.ErrTwice},
		{bytes(201), 1, api.ErrLong}, {bytes(15), 2, api.ErrLong}, {bytes(256), 6, api.ErrLong}, {"abc", 5, api.ErrLong}, {"abc", 4, api.OK}, {bytes(14), 2, api.OK},
	} {
		l, e := sweep.Orders(x.letters, x.length)
		if e != x.want || e != api.OK && len(l) != 0 {
			t.Error(i, len(l), e)
		}
	}
}

// clean is a pipeline that emits in order; rough one that does not; both of three iterations.
const (
	clean = "memory 1; function; pipe 1; ret; function; set 1 1; add 0 0 1; set 2 3; less 3 2 0; zero 3 6; break; wait 1; emit 0; fetch 5 6 1; ret"
	rough = "memory 1; function; pipe 1; ret; function; set 1 1; add 0 0 1; set 2 3; less 3 2 0; zero 3 6; break; cont 1; set 4 4; zero 0 12; sub 4 4 1; zero 4 12; jump 9; emit 0; ret"
)

// Promise 44.2: what is wrong, the first of it.
func TestSweepWrong(t *testing.T) {
	p := read(t, clean)
	for i, x := range []struct {
		p       api.Program
		input   []int
		q       api.Params
		letters string
		length  int
		want    api.Errno
	}{
		{api.Program{}, nil, plain(1), "aa", 9, api.ErrRange},
		{api.Program{}, nil, plain(1), "aa", 1, api.ErrTwice},
		{api.Program{}, nil, plain(1), bytes(201), 1, api.ErrLong},
		{api.Program{}, nil, plain(1), bytes(51), 1, api.ErrLong},
		{api.Program{}, nil, plain(1), bytes(50), 1, api.ErrNone},
		{p, nil, plain(0), "ab", 1, api.ErrRange},
		{p, make([]int, 2), plain(1), "ab", 1, api.ErrLong},
		{p, make([]int, 2), plain(1), "", 1, api.ErrLong},
		{p, nil, plain(1), bytes(50), 1, api.OK},
		{p, nil, plain(1), "", 1, api.OK},
	} {
		s, e := sweep.Sweep(x.p, x.input, x.q, x.letters, x.length, 50)
		if e != x.want || e != api.OK && s != (compare.Sum{}) {
			t.Error(i, s, e)
		}
		if got := sweep.Verdict(x.p, x.input, x.q, x.letters, x.length, 50); (got == sweep.Unasked) != (e != api.OK) {
			t.Error(i, got)
		}
	}
}

// Promise 44.2: the sum is that of the runs by all orders.
func TestSweep(t *testing.T) {
	for _, text := range []string{clean, rough, "memory 0; function; jump 0", "memory 0; function; div 0 0 0; ret", "memory 0; function; spawn 0; ret"} {
		p := read(t, text)
		for _, steps := range []int{-1, 0, 40, 150, 2000} {
			orders, _ := sweep.Orders("a\x01\x82", 3)
			l, e := compare.Spread(p, nil, plain(3), orders, steps)
			if e != api.OK || len(l) != 27 {
				t.Fatal(e)
			}
			if s, e := sweep.Sweep(p, nil, plain(3), "a\x01\x82", 3, steps); s != compare.Add(l) || e != api.OK || s.Runs != 27 {
				t.Error(text, steps, s, e)
			}
		}
	}
	if s, e := sweep.Sweep(read(t, clean), nil, plain(2), "", 3, 999); s != (compare.Sum{}) || e != api.OK {
		t.Error(s, e)
	}
	if s, e := sweep.Sweep(read(t, clean), nil, plain(2), "", 0, 999); s != (compare.Sum{Runs: 1, Done: 1, Distinct: 1}) || e != api.OK {
		t.Error(s, e)
	}
}

// Promise 44.3: verdicts.
func TestVerdict(t *testing.T) {
	long := "memory 0; function; set 1 30000; set 2 1; sub 1 1 2; zero 1 5; jump 2; ret"                    // nearly as many instructions as there is fuel for
	all := "memory 0; function; set 1 16666; add 1 1 1; set 3 1; set 2 1; sub 1 1 2; zero 1 7; jump 4; ret" // just as many
	for i, x := range []struct {
		text    string
		input   []int
		q       api.Params
		letters string
		length  int
		steps   int
		want    int
	}{
		{clean, nil, plain(3), "a\x01\x82", 3, 2000, sweep.Same},
		{clean, []int{5}, plain(1), "", 0, 2000, sweep.Same},
		{clean, nil, plain(3), "ab", 2, 20, sweep.Open},
		{clean, nil, plain(3), "", 2, 2000, sweep.Open},
		{clean, nil, plain(3), "aa", 2, 2000, sweep.Unasked},
		{clean, nil, plain(3), "ab", 9, 2000, sweep.Unasked},
		{clean, nil, plain(3), bytes(51), 1, 2000, sweep.Unasked},
		{clean, nil, plain(0), "ab", 2, 2000, sweep.Unasked},
		{clean, []int{1, 2}, plain(3), "ab", 2, 2000, sweep.Unasked},
		{"memory 0; function; div 0 0 0; ret", nil, plain(1), "a", 1, 99, sweep.Open},
		{"memory 0; function; jump 0", nil, plain(1), "a", 1, 99, sweep.Open},
		{"memory 0; function; emit 0; emit 0; ret", nil, api.Params{Workers: 1, Throttle: 1, Frames: 1, Deque: 2, Output: 1}, "a", 1, 99, sweep.Open},
		{long, nil, plain(1), "a", 1, 100000, sweep.Same},
		{all, nil, plain(1), "a", 1, 100000, sweep.Same},
	} {
		if got := sweep.Verdict(read(t, x.text), x.input, x.q, x.letters, x.length, x.steps); got != x.want {
			t.Error(i, got, x.want)
		}
	}
}

// Promise 44.3: what is done otherwise than in order.
func TestDiffers(t *testing.T) {
	// a child that takes so long that a thief of who spawned it is quicker
	p := read(t, "memory 1; function; spawn 1; load 1 0; emit 1; sync; ret; function; set 1 40; set 2 1; sub 1 1 2; zero 1 5; jump 2; set 1 9; store 0 1; ret")
	if got := sweep.Verdict(p, nil, plain(1), "ab", 2, 900); got != sweep.Same {
		t.Error(got)
	}
	if got := sweep.Verdict(p, nil, plain(2), "\x00\x01\x80\x81", 2, 900); got != sweep.Differs {
		t.Error(got)
	}
}

// Promise 44.4: of a program of which nothing hangs on who is quicker the verdict is never Differs.
func TestClean(t *testing.T) {
	for workers := 1; workers <= 4; workers++ {
		for _, steps := range []int{50, 100, 200, 400, 3000} {
			for _, letters := range []string{"ab", "\x00\x83", "\x91\x02"} {
				if got := sweep.Verdict(read(t, clean), nil, plain(workers), letters, 4, steps); got == sweep.Differs || steps == 3000 && got != sweep.Same {
					t.Error(workers, steps, got)
				}
			}
		}
	}
}

// The verdicts' numbers.
func TestVerdicts(t *testing.T) {
	for i, n := range []int{sweep.Same, sweep.Differs, sweep.Open, sweep.Unasked} {
		if i != n {
			t.Error(i, n)
		}
	}
}
