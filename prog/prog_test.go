package prog_test

import (
	"reflect"
	"slices"
	"strings"
	"testing"

	"forebay/api"
	"forebay/prog"
)

const (
	least = -1 << 63
	most  = 1<<63 - 1
)

var (
	ret   = api.Ins{Op: api.Ret}
	leave = api.Ins{Op: api.Break}
)

// many is a list of so many instructions, the last one a ret.
func many(n int) []api.Ins {
	l := make([]api.Ins, n)
	for i := range max(n-1, 0) {
		l[i] = api.Ins{Op: api.Set, A: i % 8, B: i - 100}
	}
	return l
}

// funcs is a program of these functions, with a memory of 9 words.
func funcs(l ...[]api.Ins) api.Program { return api.Program{Memory: 9, Funcs: l} }

// Promise 4.1: programs, and what is wrong with them.
func TestCheck(t *testing.T) {
	full := slices.Repeat([][]api.Ins{many(200)}, 16)
	for i, x := range []struct {
		p    api.Program
		want api.Errno
	}{
		{api.Program{Funcs: [][]api.Ins{{ret}}}, api.OK},
		{api.Program{Memory: 256, Funcs: full}, api.OK},
		{api.Program{Memory: 257, Funcs: full}, api.ErrRange},
		{api.Program{Memory: -1, Funcs: full}, api.ErrRange},
		{api.Program{Memory: most}, api.ErrRange},
		{api.Program{Memory: least}, api.ErrRange},
		{api.Program{Memory: 1}, api.ErrNone},
		{api.Program{}, api.ErrNone},
		{funcs(slices.Repeat([][]api.Ins{{}}, 17)...), api.ErrLong},
		{funcs(slices.Repeat([][]api.Ins{{ret}}, 16)...), api.OK},
		{funcs([]api.Ins{}), api.ErrNone},
		{funcs([]api.Ins{ret}, nil), api.ErrNone},
		{funcs(many(200)), api.OK},
		{funcs(many(201)), api.ErrLong},
		{funcs(append([]api.Ins{{Op: 99}}, many(200)...)), api.ErrLong},
		{funcs([]api.Ins{{Op: 26}, ret}), api.ErrKind},
		{funcs([]api.Ins{{Op: api.Set, A: 8}, ret}), api.ErrRange},
		{funcs([]api.Ins{{Op: api.Set, A: 0, C: 1}, ret}), api.ErrForm},
		{funcs([]api.Ins{{Op: api.Jump, A: 1}}), api.ErrTarget},
		{funcs([]api.Ins{{Op: api.Jump, A: 0}}), api.OK},
		{funcs([]api.Ins{{Op: api.Zero, A: 7, B: 1}, ret}), api.OK},
		{funcs([]api.Ins{{Op: api.Zero, A: 0, B: 2}, ret}), api.ErrTarget},
		{funcs([]api.Ins{{Op: api.Spawn, A: 1}, ret}), api.ErrTarget},
		{funcs([]api.Ins{{Op: api.Spawn, A: 0}, ret}), api.OK},
		{funcs([]api.Ins{{Op: api.Pipe, A: 2}, ret}, []api.Ins{leave}), api.ErrTarget},
		{funcs([]api.Ins{{Op: api.Pipe, A: 1}, ret}, []api.Ins{leave}), api.OK},
		{funcs([]api.Ins{{Op: api.Emit}}), api.ErrEnd},
		{funcs([]api.Ins{ret, {Op: api.Zero, B: 0}}), api.ErrEnd},
		{funcs([]api.Ins{leave, ret, {Op: api.Sync}}), api.ErrEnd},
		{funcs([]api.Ins{{Op: api.Pipe, A: 0}}), api.ErrEnd},
	} {
		if e := prog.Check(x.p); e != x.want {
			t.Errorf("%d: %v, want %v", i, e, x.want)
		}
		if s, e := prog.Put(x.p); e != x.want || (e != api.OK) != (s == "") {
			t.Errorf("Put of %d: %q, %v", i, s, e)
		}
	}
}

// Promise 4.1: of several errors the first one, function by function, instruction by instruction.
func TestCheckFirst(t *testing.T) {
	kind, span, form := api.Ins{Op: -1}, api.Ins{Op: api.Emit, A: 9}, api.Ins{Op: api.Ret, B: 1}
	far := api.Ins{Op: api.Jump, A: 150}
	for i, x := range []struct {
		p    api.Program
		want api.Errno
	}{
		{api.Program{Memory: -1}, api.ErrRange},
		{api.Program{Memory: 300, Funcs: slices.Repeat([][]api.Ins{{}}, 17)}, api.ErrRange},
		{funcs([]api.Ins{far, kind}), api.ErrTarget},
		{funcs([]api.Ins{kind, far}), api.ErrKind},
		{funcs([]api.Ins{form, span}), api.ErrForm},
		{funcs([]api.Ins{span, form}), api.ErrRange},
		{funcs([]api.Ins{{Op: api.Emit}, far, {Op: api.Emit}}), api.ErrTarget},
		{funcs([]api.Ins{{Op: api.Emit}}, []api.Ins{}), api.ErrEnd},
		{funcs([]api.Ins{}, []api.Ins{kind}), api.ErrNone},
		{funcs([]api.Ins{{Op: api.Zero, A: 8, B: 199}, ret}), api.ErrRange},
	} {
		if e := prog.Check(x.p); e != x.want {
			t.Errorf("%d: %v, want %v", i, e, x.want)
		}
	}
}

// small is the least program: one function of one ret.
const small = "HR\x01\x01\x00\x00\x00\x01\x00\x00\x00\x00"

// Promise 4.1: the bytes, as they are written out.
func TestPut(t *testing.T) {
	if s, e := prog.Put(api.Program{Funcs: [][]api.Ins{{ret}}}); s != small || e != api.OK {
		t.Errorf("%q, %v", s, e)
	}
	p := api.Program{Memory: 256, Funcs: [][]api.Ins{{{Op: api.Set, A: 2, B: -1}, {Op: api.Pipe, A: 1}, ret}, {leave}}}
	want := "HR\x01\x02\x01\x00\x00\x03\x01\x02\xff\xff\x16\x01\x00\x00\x00\x00\x00\x00\x00\x01\x19\x00\x00\x00"
	if s, e := prog.Put(p); s != want || e != api.OK {
		t.Errorf("%q, %v", s, e)
	}
}

// Promise 4.2: bytes that are no program, and why.
func TestGetWrong(t *testing.T) {
	for i, x := range []struct {
		s    string
		want api.Errno
	}{
		{"", api.ErrShort},
		{"HR\x01\x01\x00", api.ErrShort},
		{"XX", api.ErrShort},
		{"HR\x02\x01\x00\x00", api.ErrForm},
		{"HX\x01\x01\x00\x00", api.ErrForm},
		{"XR\x01\x01\x00\x00", api.ErrForm},
		{"hr\x01\x01\xff\xff", api.ErrForm},
		{"HR\x01\x00\x01\x01", api.ErrRange},
		{"HR\x01\x00\xff\xff", api.ErrRange},
		{"HR\x01\x00\x01\x00", api.ErrNone},
		{"HR\x01\x11\x01\x00", api.ErrLong},
		{"HR\x01\x01\x01\x00", api.ErrShort},
		{"HR\x01\x01\x01\x00\x00", api.ErrShort},
		{"HR\x01\x01\x01\x00\x00\x00", api.ErrNone},
		{"HR\x01\x01\x01\x00\x00\xc9", api.ErrLong},
		{"HR\x01\x01\x01\x00\x01\x00", api.ErrLong},
		{"HR\x01\x01\x01\x00\x00\x01", api.ErrShort},
		{"HR\x01\x01\x01\x00\x00\x01\xff\xff\xff", api.ErrShort},
		{"HR\x01\x01\x01\x00\x00\x01\xff\xff\xff\xff", api.ErrKind},
		{"HR\x01\x01\x01\x00\x00\x02\x11\x08\x00\x00", api.ErrRange},
		{"HR\x01\x01\x01\x00\x00\x02\x11\x07\x00\x01", api.ErrForm},
		{"HR\x01\x01\x01\x00\x00\x02\x11\x07\x00\x00", api.ErrShort},
		{"HR\x01\x02\x01\x00\x00\x01\x11\x07\x00\x00", api.ErrShort},
		{small + "\x00", api.ErrMore},
		{"HR\x01\x01\x00\x00\x00\x01\x11\x07\x00\x00\x00", api.ErrMore},
		{"HR\x01\x01\x00\x00\x00\x01\x11\x07\x00\x00", api.ErrEnd},
		{"HR\x01\x01\x00\x00\x00\x01\x12\x00\x01\x00", api.ErrTarget},
		{"HR\x01\x02\x00\x00\x00\x01\x11\x07\x00\x00\x00\x00", api.ErrNone},
		{"HR\x01\x01\x00\x00\x00\x02\x14\x01\x00\x00\x00\x00\x00\x00", api.ErrTarget},
	} {
		if p, e := prog.Get(x.s); e != x.want || p.Memory != 0 || p.Funcs != nil {
			t.Errorf("%d: %v, %v; want %v", i, p, e, x.want)
		}
	}
}

// Promise 4.2: each beginning of a program is short.
func TestGetCut(t *testing.T) {
	s, _ := prog.Put(funcs(many(3), many(1), many(200)))
	for n := range len(s) {
		if p, e := prog.Get(s[:n]); e != api.ErrShort || p.Funcs != nil {
			t.Error(n, e)
		}
	}
	if _, e := prog.Get(s + strings.Repeat("x", 9)); e != api.ErrMore {
		t.Error(e)
	}
}

// Promise 4.3: there and back.
func TestBack(t *testing.T) {
	for i, p := range []api.Program{
		{Funcs: [][]api.Ins{{ret}}},
		{Memory: 256, Funcs: slices.Repeat([][]api.Ins{many(200)}, 16)},
		funcs(many(1), many(2), many(7), many(199)),
		funcs([]api.Ins{{Op: api.Zero, A: 3, B: 2}, {Op: api.Spawn, A: 1}, {Op: api.Jump, A: 0}}, []api.Ins{{Op: api.Wait, A: 7}, leave}),
	} {
		before := reflect.ValueOf(p).Interface().(api.Program)
		s, e := prog.Put(p)
		if e != api.OK || !reflect.DeepEqual(p, before) {
			t.Fatal(i, e)
		}
		got, e := prog.Get(s)
		if e != api.OK || !reflect.DeepEqual(got, p) {
			t.Errorf("%d: %v, %v", i, got, e)
		}
		if again, e := prog.Put(got); again != s || e != api.OK {
			t.Errorf("%d: %q, %v", i, again, e)
		}
	}
}

// Promise 4.3: what is got shares nothing with what is got again.
func TestApart(t *testing.T) {
	a, _ := prog.Get(small)
	b, _ := prog.Get(small)
	a.Funcs[0][0].Op = api.Break
	if b.Funcs[0][0] != ret {
		t.Error(b)
	}
}
