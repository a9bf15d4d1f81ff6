package tidy_test

import (
	"reflect"
	"slices"
	"strings"
	"testing"

	"forebay/api"
	"forebay/asm"
	"forebay/prog"
	"forebay/serial"
	"forebay/tidy"
)

const (
	least = -1 << 63
	most  = 1<<63 - 1
)

// code is instructions that are written, with semicolons between them.
func code(t testing.TB, text string) []api.Ins {
	t.Helper()
	var l []api.Ins
	for _, line := range strings.Split(text, "; ") {
		x, e := asm.Parse(line)
		if e != api.OK {
			t.Fatal(line, e)
		}
		l = append(l, x)
	}
	return l
}

// text is instructions in writing.
func text(l []api.Ins) string {
	var s []string
	for _, x := range l {
		s = append(s, asm.Line(x))
	}
	return strings.Join(s, "; ")
}

// bits are which ones are so.
func bits(l []bool) string {
	s := ""
	for _, is := range l {
		s += map[bool]string{false: "-", true: "x"}[is]
	}
	return s
}

// Promise 42.1: what is reached.
func TestReached(t *testing.T) {
	for in, want := range map[string]string{
		"ret":                                "x",
		"jump 0":                             "x",
		"break":                              "x",
		"emit 1; ret; emit 1; ret":           "xx--",
		"emit 1; break; emit 1; ret":         "xx--",
		"jump 2; emit 1; jump 3; ret":        "x-xx",
		"zero 1 3; emit 1; ret; break":       "xxxx",
		"zero 1 0; ret; ret":                 "xx-",
		"jump 3; ret; jump 1; zero 0 2; ret": "xxxxx",
		"jump 1; jump 0; ret":                "xx-",
		"zero 1 1; sync; ret":                "xxx",
		"jump 2; ret; zero 0 1; wait 1; cont 1; pipe 0; spawn 0; break; ret": "xxxxxxxx-",
	} {
		l := code(t, in)
		got, e := tidy.Reached(l)
		if bits(got) != want || e != api.OK || text(l) != in {
			t.Error(in, bits(got), e)
		}
	}
}

// Promise 42.1: what does nothing.
func TestUseless(t *testing.T) {
	l := code(t, "move 1 1; move 1 2; jump 3; jump 3; zero 4 5; zero 4 4; jump 9; set 1 1; add 1 1 1; jump 10")
	for i := -2; i < 14; i++ {
		if got := tidy.Useless(l, i); got != (i == 0 || i == 2 || i == 4 || i == 9) {
			t.Error(i, got)
		}
	}
	for _, i := range []int{least, most} {
		if tidy.Useless(l, i) || tidy.Useless(nil, i) {
			t.Error(i)
		}
	}
	if tidy.Useless(nil, 0) || !tidy.Useless([]api.Ins{{Op: api.Zero, B: 1}}, 0) || tidy.Useless([]api.Ins{{Op: api.Jump, A: -1}}, 0) || tidy.Useless([]api.Ins{{Op: 99}}, 0) {
		t.Error("of others")
	}
}

// Promise 42.1: what is wrong.
func TestWrong(t *testing.T) {
	for i, x := range []struct {
		l    []api.Ins
		want api.Errno
	}{
		{nil, api.ErrNone},
		{[]api.Ins{}, api.ErrNone},
		{make([]api.Ins, 200), api.OK},
		{make([]api.Ins, 201), api.ErrLong},
		{slices.Repeat([]api.Ins{{Op: api.Jump, A: 999}}, 201), api.ErrLong},
		{[]api.Ins{{Op: api.Jump, A: 1}}, api.ErrTarget},
		{[]api.Ins{{Op: api.Jump, A: -1}}, api.ErrTarget},
		{[]api.Ins{{Op: api.Zero, B: 2}, {}}, api.ErrTarget},
		{[]api.Ins{{Op: api.Zero, B: -1}, {}}, api.ErrTarget},
		{[]api.Ins{{Op: api.Zero, A: 9, B: 1}, {}}, api.OK},
		{[]api.Ins{{Op: api.Jump, A: most}, {Op: api.Emit}}, api.ErrTarget},
		{[]api.Ins{{Op: api.Jump, A: least}}, api.ErrTarget},
		{[]api.Ins{{}, {Op: api.Zero, B: 2}}, api.ErrTarget},
		{[]api.Ins{{Op: api.Emit}}, api.ErrEnd},
		{[]api.Ins{{}, {Op: api.Zero, B: 0}}, api.ErrEnd},
		{[]api.Ins{{}, {Op: 99}}, api.ErrEnd},
		{[]api.Ins{{Op: -5}, {Op: api.Break}}, api.OK},
		{[]api.Ins{{Op: api.Spawn, A: 9}, {}}, api.OK},
	} {
		a, e := tidy.Reached(x.l)
		if e != x.want || (len(a) != len(x.l)) != (e != api.OK) && len(x.l) > 0 {
			t.Error(i, e)
		}
		b, e := tidy.Round(x.l)
		if e != x.want || e != api.OK && len(b) != 0 {
			t.Error(i, e)
		}
	}
}

// Promise 42.1: what a round makes of a function.
func TestRound(t *testing.T) {
	for in, want := range map[string]string{
		"ret":                         "ret",
		"jump 2; emit 1; jump 3; ret": "jump 1; ret",
		"jump 1; ret":                 "ret",
		"move 1 1; ret":               "ret",
		"zero 5 1; ret":               "ret",
		"jump 0":                      "jump 0",
		"emit 1; jump 0":              "emit 1; jump 0",
		"emit 1; ret; emit 2; break":  "emit 1; ret",
		// a jump that leads on is not reached any more
		"zero 1 2; jump 3; jump 4; emit 1; ret":                "zero 1 3; jump 2; emit 1; ret",
		"zero 1 4; jump 0; ret; ret; jump 6; ret; emit 1; ret": "zero 1 2; jump 0; emit 1; ret",
		// a target is where the first one that stays stands
		"zero 1 3; emit 1; emit 2; move 2 2; emit 3; ret": "zero 1 3; emit 1; emit 2; emit 3; ret",
		"zero 1 3; zero 2 3; zero 3 3; ret":               "zero 1 2; zero 2 2; ret",
		// a jump to itself is where one ends
		"jump 3; emit 1; ret; jump 3": "jump 1; jump 1",
		// targets that go round stay as they were; that of the next place is useless
		"zero 1 2; ret; jump 3; jump 2":                      "zero 1 2; ret; jump 2",
		"zero 1 3; emit 1; ret; jump 4; jump 5; jump 3; ret": "zero 1 3; emit 1; ret; jump 3",
		"jump 2; jump 2; jump 1":                             "jump 1; jump 1",
		"zero 1 4; emit 1; jump 0; ret; jump 6; ret; jump 4": "zero 1 3; emit 1; jump 0; jump 4; jump 3",
		// far on
		"jump 5; jump 4; jump 1; jump 2; ret; jump 3": "jump 1; ret",
	} {
		l := code(t, in)
		got, e := tidy.Round(l)
		if e != api.OK || text(l) != in {
			t.Error(in, e)
		}
		if text(got) != want {
			t.Errorf("%s: %s; want %s", in, text(got), want)
		}
	}
}

// Promise 42.2: programs, and how many instructions they have fewer.
func TestProgram(t *testing.T) {
	for i, x := range []struct {
		in, want []string
		fewer    int
	}{
		{[]string{"jump 2; emit 1; jump 3; ret"}, []string{"ret"}, 3},
		{[]string{"ret", "jump 1; jump 2; move 3 3; break", "emit 1; ret"}, []string{"ret", "break", "emit 1; ret"}, 3},
		{[]string{"zero 1 3; zero 2 3; zero 3 3; ret"}, []string{"ret"}, 3},
		{[]string{"zero 1 2; ret; jump 3; jump 2"}, []string{"zero 1 2; ret; jump 2"}, 1},
		{[]string{"emit 1; spawn 1; ret", "jump 0"}, []string{"emit 1; spawn 1; ret", "jump 0"}, 0},
		{[]string{"jump 1; move 1 1; zero 2 3; jump 4; zero 1 6; jump 6; ret"}, []string{"ret"}, 6},
	} {
		p := api.Program{Memory: 7}
		for _, s := range x.in {
			p.Funcs = append(p.Funcs, code(t, s))
		}
		q, fewer, e := tidy.Program(p)
		if e != api.OK || fewer != x.fewer || q.Memory != 7 || len(q.Funcs) != len(x.want) {
			t.Fatal(i, q, fewer, e)
		}
		for n, want := range x.want {
			if got := text(q.Funcs[n]); got != want {
				t.Error(i, n, got)
			}
			if text(p.Funcs[n]) != x.in[n] {
				t.Error(i, n, "what was handed in has changed")
			}
			q.Funcs[n][0] = api.Ins{Op: 77}
			if text(p.Funcs[n]) != x.in[n] {
				t.Error(i, n, "what was handed out is the caller's")
			}
		}
	}
	for i, x := range []struct {
		p    api.Program
		want api.Errno
	}{
		{api.Program{Memory: -1}, api.ErrRange},
		{api.Program{}, api.ErrNone},
		{api.Program{Funcs: [][]api.Ins{{{Op: api.Emit}}}}, api.ErrEnd},
		{api.Program{Funcs: [][]api.Ins{{{Op: api.Spawn, A: 3}, {}}}}, api.ErrTarget},
		{api.Program{Funcs: [][]api.Ins{{{Op: 99}, {}}}}, api.ErrKind},
	} {
		if q, fewer, e := tidy.Program(x.p); e != x.want || q.Funcs != nil || q.Memory != 0 || fewer != 0 {
			t.Error(i, q, fewer, e)
		}
	}
}

// Promise 42.3: what is tidied does just what it did, with no more instructions; tidied again it is the same.
func TestSame(t *testing.T) {
	ended := 0
	for seed := range uint32(3000) {
		x := seed * 2654435761
		next := func(n int) int {
			x = x*1664525 + 1013904223
			return int(x>>9) % n
		}
		p := api.Program{Memory: 2}
		for range 2 {
			n := 1 + next(14)
			var l []api.Ins
			for range n {
				switch next(9) {
				case 0, 1:
					l = append(l, api.Ins{Op: api.Jump, A: next(n + 1)})
				case 2, 3:
					l = append(l, api.Ins{Op: api.Zero, A: next(3), B: next(n + 1)})
				case 4:
					l = append(l, api.Ins{Op: api.Move, A: next(3), B: next(3)})
				case 5:
					l = append(l, api.Ins{Op: api.Set, A: next(3), B: next(3)})
				case 6:
					l = append(l, api.Ins{Op: api.Emit, A: next(3)})
				case 7:
					l = append(l, api.Ins{Op: api.Load, A: next(3), B: next(3)})
				case 8:
					l = append(l, api.Ins{Op: []int{api.Ret, api.Break, api.Spawn, api.Sync}[next(4)]})
					if last := &l[len(l)-1]; last.Op == api.Spawn {
						last.A = 1
					}
				}
			}
			p.Funcs = append(p.Funcs, append(l, api.Ins{}))
		}
		q, fewer, e := tidy.Program(p)
		if e != api.OK || prog.Check(q) != api.OK || fewer < 0 {
			t.Fatal(seed, e, fewer)
		}
		if again, none, _ := tidy.Program(q); none != 0 || !reflect.DeepEqual(again, q) {
			t.Fatal(seed, again, q)
		}
		a, _ := serial.Eval(p, nil, 3000)
		if a.Status == api.Out {
			continue
		}
		ended++
		b, _ := serial.Eval(q, nil, 3000)
		if a.Status != b.Status || a.Why != b.Why || !slices.Equal(a.Output, b.Output) || !slices.Equal(a.Memory, b.Memory) || b.Steps > a.Steps || a.Frames != b.Frames || a.Deepest != b.Deepest {
			t.Fatal(seed, a, b)
		}
	}
	if ended < 500 {
		t.Error(ended)
	}
}
