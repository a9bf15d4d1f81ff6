package asm_test

import (
	"reflect"
	"slices"
	"strings"
	"testing"

	"forebay/api"
	"forebay/asm"
	"forebay/ins"
)

const (
	least = -1 << 63
	most  = 1<<63 - 1
)

var ret = api.Ins{Op: api.Ret}

// Promise 6.1: instructions in writing.
func TestLine(t *testing.T) {
	for _, x := range []struct {
		in   api.Ins
		want string
	}{
		{ret, "ret"},
		{api.Ins{Op: api.Set, A: 2, B: -32768}, "set 2 -32768"},
		{api.Ins{Op: api.Add, A: 1, B: 0, C: 7}, "add 1 0 7"},
		{api.Ins{Op: api.Load, A: 1}, "load 1 0"},
		{api.Ins{Op: api.Emit, A: 3}, "emit 3"},
		{api.Ins{Op: api.Jump, A: 199}, "jump 199"},
		{api.Ins{Op: api.Zero, A: 7, B: 12}, "zero 7 12"},
		{api.Ins{Op: api.Pipe, A: 15}, "pipe 15"},
		{api.Ins{Op: api.Break}, "break"},
	} {
		if got := asm.Line(x.in); got != x.want {
			t.Errorf("%v: %q", x.in, got)
		}
		if got, e := asm.Parse(x.want); got != x.in || e != api.OK {
			t.Errorf("%q: %v, %v", x.want, got, e)
		}
	}
	for _, x := range []api.Ins{{Op: -1}, {Op: api.Ops}, {Op: api.Emit, A: 8}, {Op: api.Emit, B: 1}, {Op: api.Jump, A: -1}, {Op: most}} {
		if got := asm.Line(x); got != "" {
			t.Errorf("%v: %q", x, got)
		}
	}
}

// Promise 6.1: lines that are read, and that are not.
func TestParse(t *testing.T) {
	for line, want := range map[string]api.Ins{
		"  set   2    -1 ":                  {Op: api.Set, A: 2, B: -1},
		"ret" + strings.Repeat(" ", 397):    ret,
		"swap 1 2 3":                        {Op: api.Swap, A: 1, B: 2, C: 3},
		strings.Repeat(" ", 394) + "emit 3": {Op: api.Emit, A: 3},
	} {
		if got, e := asm.Parse(line); got != want || e != api.OK {
			t.Errorf("%q: %v, %v", line, got, e)
		}
	}
	for line, want := range map[string]api.Errno{
		"ret" + strings.Repeat(" ", 398): api.ErrLong,
		strings.Repeat(" ", 401):         api.ErrLong,
		strings.Repeat(" ", 400):         api.ErrNone,
		"":                               api.ErrNone,
		"function":                       api.ErrCommand,
		"memory 3":                       api.ErrCommand,
		"Set 1 2":                        api.ErrCommand,
		"set\t1 2":                       api.ErrCommand,
		"0 1 2":                          api.ErrCommand,
		"what 1 2 3 4":                   api.ErrCommand,
		"set 2":                          api.ErrShort,
		"set":                            api.ErrShort,
		"set x":                          api.ErrShort,
		"add 1 2":                        api.ErrShort,
		"add 1 2 3 4":                    api.ErrMore,
		"ret 0":                          api.ErrMore,
		"break x":                        api.ErrMore,
		"set 2 x":                        api.ErrForm,
		"set 9 x":                        api.ErrForm,
		"set 2 +1":                       api.ErrForm,
		"set 02 1":                       api.ErrForm,
		"set 8 1":                        api.ErrRange,
		"set 2 32768":                    api.ErrRange,
		"set 2 -32769":                   api.ErrRange,
		"jump 200":                       api.ErrRange,
		"spawn 16":                       api.ErrRange,
		"emit -1":                        api.ErrRange,
	} {
		if got, e := asm.Parse(line); got != (api.Ins{}) || e != want {
			t.Errorf("%q: %v, %v; want %v", line, got, e, want)
		}
	}
}

// Promise 6.2: programs in writing.
func TestText(t *testing.T) {
	p := api.Program{Memory: 12, Funcs: [][]api.Ins{{{Op: api.Set, A: 1, B: -5}, {Op: api.Spawn, A: 1}, ret}, {{Op: api.Break}}}}
	want := "memory 12\nfunction\nset 1 -5\nspawn 1\nret\nfunction\nbreak\n"
	if got, e := asm.Text(p); got != want || e != api.OK {
		t.Errorf("%q, %v", got, e)
	}
	for _, x := range []struct {
		p    api.Program
		want api.Errno
	}{
		{api.Program{Memory: -1}, api.ErrRange},
		{api.Program{}, api.ErrNone},
		{api.Program{Funcs: [][]api.Ins{{{Op: api.Emit}}}}, api.ErrEnd},
		{api.Program{Funcs: [][]api.Ins{{{Op: api.Spawn, A: 1}, ret}}}, api.ErrTarget},
	} {
		if got, e := asm.Text(x.p); got != "" || e != x.want {
			t.Errorf("%q, %v; want %v", got, e, x.want)
		}
	}
}

// Promise 6.2: texts that are read, with lines that are nothing.
func TestRead(t *testing.T) {
	p, e := asm.Read("\n   \n  memory   7 \n\nfunction\n\n ret \n function  \nset 0 1\n\njump 0")
	want := api.Program{Memory: 7, Funcs: [][]api.Ins{{ret}, {{Op: api.Set, B: 1}, {Op: api.Jump}}}}
	if !reflect.DeepEqual(p, want) || e != api.OK {
		t.Error(p, e)
	}
	wide := "memory" + strings.Repeat(" ", 500) + "3\n" + strings.Repeat(" ", 500) + "function\n" + strings.Repeat(" ", 600) + "\nret\n"
	if p, e := asm.Read(wide); p.Memory != 3 || len(p.Funcs) != 1 || e != api.OK {
		t.Error(p, e)
	}
}

// Promise 6.2: texts that are not read, and why.
func TestReadWrong(t *testing.T) {
	good := "memory 0\nfunction\nret\n"
	for i, x := range []struct {
		text string
		want api.Errno
	}{
		{good + strings.Repeat("\n", 60000-len(good)), api.OK},
		{good + strings.Repeat("\n", 60001-len(good)), api.ErrLong},
		{strings.Repeat("x", 60001), api.ErrLong},
		{"", api.ErrForm},
		{"\n  \n", api.ErrForm},
		{"memory", api.ErrForm},
		{"memory x\nfunction\nret\n", api.ErrForm},
		{"memory 1 2\nfunction\nret\n", api.ErrForm},
		{"Memory 1\nfunction\nret\n", api.ErrForm},
		{"function\nmemory 0\nret\n", api.ErrForm},
		{"ret\n", api.ErrForm},
		{"memory 0\nret\n", api.ErrState},
		{"memory 0\nwhat\n", api.ErrCommand},
		{"memory 0\nset 1\n", api.ErrShort},
		{"memory 0\nfunction 1\n", api.ErrCommand},
		{"memory 0\nfunction\nmemory 0\nret\n", api.ErrCommand},
		{"memory 0\nfunction\nemit 9\nwhat\n", api.ErrRange},
		{"memory 0\nfunction\nret" + strings.Repeat(" ", 398) + "\n", api.ErrLong},
		{"memory 0\n", api.ErrNone},
		{"memory 0\nfunction\n", api.ErrNone},
		{"memory 999\nfunction\n", api.ErrRange},
		{"memory -1\nfunction\nwhat\n", api.ErrCommand},
		{"memory 0\nfunction\nemit 1\n", api.ErrEnd},
		{"memory 0\nfunction\njump 1\n", api.ErrTarget},
		{"memory 0\nfunction\nspawn 1\nret\n", api.ErrTarget},
		{"memory 0\n" + strings.Repeat("function\nret\n", 16), api.OK},
		{"memory 0\n" + strings.Repeat("function\nret\n", 17), api.ErrLong},
		{"memory 0\nfunction\n" + strings.Repeat("ret\n", 200), api.OK},
		{"memory 0\nfunction\n" + strings.Repeat("ret\n", 201), api.ErrLong},
	} {
		p, e := asm.Read(x.text)
		if e != x.want || e != api.OK && (p.Memory != 0 || p.Funcs != nil) {
			t.Errorf("%d: %v; want %v", i, e, x.want)
		}
	}
}

// Promise 6.3: there and back, of each operation, and of great programs.
func TestBack(t *testing.T) {
	var all []api.Ins
	for op := range api.Ops {
		x := api.Ins{Op: op}
		for i, letter := range ins.Form(op) {
			n := 7 - i
			if letter == 'f' {
				n = 1
			}
			if letter == 'n' {
				n = -32768 + op
			}
			*[]*int{&x.A, &x.B, &x.C}[i] = n
		}
		if got, e := asm.Parse(asm.Line(x)); got != x || e != api.OK {
			t.Error(x, got, e)
		}
		all = append(all, x)
	}
	long := append(slices.Repeat([]api.Ins{{Op: api.Set, A: 7, B: -32768}}, 199), ret)
	for _, p := range []api.Program{
		{Memory: 256, Funcs: [][]api.Ins{all, all, {ret}}},
		{Funcs: slices.Repeat([][]api.Ins{long}, 16)},
	} {
		s, e := asm.Text(p)
		if e != api.OK {
			t.Fatal(e)
		}
		got, e := asm.Read(s)
		if e != api.OK || !reflect.DeepEqual(got, p) {
			t.Error(got, e)
		}
		if again, _ := asm.Text(got); again != s {
			t.Error(again)
		}
	}
}
