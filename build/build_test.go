package build_test

import (
	"reflect"
	"slices"
	"testing"

	"forebay/api"
	"forebay/build"
)

var (
	ret  = api.Ins{Op: api.Ret}
	emit = api.Ins{Op: api.Emit, A: 1}
)

// want holds a builder's end against a program.
func want(t *testing.T, b *build.Builder, memory int, funcs ...[]api.Ins) {
	t.Helper()
	p, e := b.End()
	if e != api.OK || !reflect.DeepEqual(p, api.Program{Memory: memory, Funcs: funcs}) {
		t.Errorf("%v, %v", p, e)
	}
}

// wrong holds a builder's end against an error.
func wrong(t *testing.T, b *build.Builder, want api.Errno) {
	t.Helper()
	if p, e := b.End(); e != want || p.Memory != 0 || p.Funcs != nil {
		t.Errorf("%v, %v; want %v", p, e, want)
	}
}

// Promise 7.1: functions and instructions are numbered as they come.
func TestAdd(t *testing.T) {
	b := build.New(5)
	if n := b.Func(); n != 0 {
		t.Error(n)
	}
	if n := b.Add(); n != 0 {
		t.Error(n)
	}
	l := []api.Ins{emit, emit}
	if n := b.Add(l...); n != 2 {
		t.Error(n)
	}
	l[0] = api.Ins{Op: api.Break} // what was handed in isn't kept
	if n := b.Add(ret); n != 3 {
		t.Error(n)
	}
	if n := b.Func(); n != 1 {
		t.Error(n)
	}
	if n := b.Add(ret); n != 1 {
		t.Error(n)
	}
	want(t, b, 5, []api.Ins{emit, emit, ret}, []api.Ins{ret})
}

// Promise 7.1: ahead of the first function nothing is.
func TestAhead(t *testing.T) {
	b := build.New(0)
	if n := b.Add(ret); n != -1 {
		t.Error(n)
	}
	if n := b.Add(); n != -1 {
		t.Error(n)
	}
	if e := b.Label("a"); e != api.ErrState {
		t.Error(e)
	}
	b.Goto("x")
	b.IfZero(1, "x")
	wrong(t, b, api.ErrNone)
	if n := b.Func(); n != 0 {
		t.Error(n)
	}
	if e := b.Label("a"); e != api.OK {
		t.Error(e)
	}
	b.Add(ret)
	want(t, b, 0, []api.Ins{ret})
}

// Promise 7.1: a function has a label once; another one may have it, too.
func TestLabelTwice(t *testing.T) {
	b := build.New(0)
	b.Func()
	if e := b.Label("a"); e != api.OK {
		t.Error(e)
	}
	b.Add(emit)
	if e := b.Label("a"); e != api.ErrTwice {
		t.Error(e)
	}
	if e := b.Label("A"); e != api.OK {
		t.Error(e)
	}
	if e := b.Label(""); e != api.OK {
		t.Error(e)
	}
	b.Goto("a")
	b.Func()
	if e := b.Label("a"); e != api.OK {
		t.Error(e)
	}
	b.Add(ret)
	want(t, b, 0, []api.Ins{emit, {Op: api.Jump, A: 0}}, []api.Ins{ret})
}

// Promises 7.1, 7.3: jumps lead to where their labels stand, whichever came first.
func TestLeaps(t *testing.T) {
	b := build.New(2)
	b.Func()
	b.IfZero(3, "end")
	b.Label("again")
	b.Add(emit)
	b.IfZero(4, "again")
	b.Goto("more")
	b.Label("more")
	b.Label("same")
	b.Goto("again")
	b.Label("end")
	b.IfZero(0, "same")
	b.Add(ret)
	want(t, b, 2, []api.Ins{
		{Op: api.Zero, A: 3, B: 5}, emit, {Op: api.Zero, A: 4, B: 1}, {Op: api.Jump, A: 4}, {Op: api.Jump, A: 1}, {Op: api.Zero, A: 0, B: 4}, ret,
	})
	b = build.New(0)
	b.Func()
	b.Goto("a")
	b.Label("a")
	b.Add(ret)
	want(t, b, 0, []api.Ins{{Op: api.Jump, A: 1}, ret})
}

// Promise 7.2: jumps that are added as they are stay as they are.
func TestPlainJumps(t *testing.T) {
	b := build.New(0)
	b.Func()
	b.Add(api.Ins{Op: api.Jump, A: 2}, api.Ins{Op: api.Zero, A: 1, B: 2})
	b.Goto("a")
	b.Label("a")
	b.Add(ret)
	want(t, b, 0, []api.Ins{{Op: api.Jump, A: 2}, {Op: api.Zero, A: 1, B: 2}, {Op: api.Jump, A: 3}, ret})
}

// Promise 7.2: what is wrong at the end; labels ahead of all else.
func TestEndWrong(t *testing.T) {
	b := build.New(-1)
	wrong(t, b, api.ErrRange)
	b.Func()
	wrong(t, b, api.ErrRange)
	b.Goto("x")
	wrong(t, b, api.ErrNone) // no such label
	b.Label("x")
	wrong(t, b, api.ErrRange)

	b = build.New(0)
	b.Func()
	b.Goto("x")
	b.Label("x")
	wrong(t, b, api.ErrTarget) // the label stands behind all instructions
	b.Add(emit)
	wrong(t, b, api.ErrEnd)
	b.Add(ret)
	want(t, b, 0, []api.Ins{{Op: api.Jump, A: 1}, emit, ret})
	b.Add(api.Ins{Op: 77}, ret)
	wrong(t, b, api.ErrKind)

	b = build.New(0)
	b.Func()
	b.Label("x")
	b.Add(ret)
	b.Func()
	b.IfZero(1, "x") // the label of another function
	b.Add(ret)
	wrong(t, b, api.ErrNone)

	b = build.New(0)
	b.Func()
	b.Label("x")
	b.IfZero(8, "x")
	b.Add(ret)
	wrong(t, b, api.ErrRange)
}

// Promise 7.2: End may be asked again, and what it answers is nobody else's.
func TestAgain(t *testing.T) {
	b := build.New(1)
	b.Func()
	b.Label("a")
	b.Add(emit)
	b.Goto("a")
	p, e := b.End()
	if e != api.OK {
		t.Fatal(e)
	}
	p.Funcs[0][0] = ret
	p.Funcs[0] = slices.Insert(p.Funcs[0], 0, ret)
	want(t, b, 1, []api.Ins{emit, {Op: api.Jump, A: 0}})
	want(t, b, 1, []api.Ins{emit, {Op: api.Jump, A: 0}})
	if n := b.Add(ret); n != 3 {
		t.Error(n)
	}
	want(t, b, 1, []api.Ins{emit, {Op: api.Jump, A: 0}, ret})
}

// Promise 7.2: of nil.
func TestNil(t *testing.T) {
	var b *build.Builder
	b.Goto("a")
	b.IfZero(1, "a")
	if b.Func() != -1 || b.Add(ret) != -1 || b.Label("a") != api.ErrState {
		t.Error(b.Func(), b.Add(ret), b.Label("a"))
	}
	wrong(t, b, api.ErrState)
	z := new(build.Builder)
	if z.Add(ret) != -1 || z.Func() != 0 || z.Label("a") != api.OK || z.Add(ret) != 1 {
		t.Error("a builder of nothing")
	}
}
