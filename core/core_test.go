package core_test

import (
	"slices"
	"testing"

	"forebay/api"
	"forebay/core"
	"forebay/frame"
	"forebay/layout"
	"forebay/step"
)

const (
	least = -1 << 63
	most  = 1<<63 - 1
)

// program has two functions, and four words of memory.
func program() api.Program {
	return api.Program{Memory: 4, Funcs: [][]api.Ins{
		{{Op: api.Set, A: 1, B: 5}, {Op: api.Pipe, A: 1}, {Op: api.Ret}},
		{{Op: api.Break}},
	}}
}

// params are some that may be.
var params = api.Params{Workers: 2, Throttle: 3, Frames: 4, Deque: 5, Output: 6, Fold: true, Lazy: true}

// made is a core, that must be.
func made(t *testing.T, p api.Program, input []int, q api.Params) *core.Core {
	t.Helper()
	c, e := core.New(p, input, q)
	if e != api.OK || c == nil {
		t.Fatal(e)
	}
	return c
}

// Promise 25.1: what is wrong with a run, the first of it.
func TestCheck(t *testing.T) {
	wrong := api.Program{Memory: 1, Funcs: [][]api.Ins{{{Op: api.Emit}}}}
	change := func(f func(q *api.Params)) api.Params {
		q := params
		f(&q)
		return q
	}
	for i, x := range []struct {
		p     api.Program
		input []int
		q     api.Params
		want  api.Errno
	}{
		{program(), nil, params, api.OK},
		{program(), []int{1, 2, 3, 4}, params, api.OK},
		{program(), []int{1, 2, 3, 4, 5}, params, api.ErrLong},
		{program(), nil, api.Params{Workers: 1, Throttle: 1, Frames: 1, Deque: 2}, api.OK},
		{program(), nil, api.Params{Workers: 64, Throttle: 64, Frames: 256, Deque: 256, Output: 1000}, api.OK},
		{program(), nil, change(func(q *api.Params) { q.Workers = 0 }), api.ErrRange},
		{program(), nil, change(func(q *api.Params) { q.Workers = 65 }), api.ErrRange},
		{program(), nil, change(func(q *api.Params) { q.Throttle = 0 }), api.ErrRange},
		{program(), nil, change(func(q *api.Params) { q.Throttle = 65 }), api.ErrRange},
		{program(), nil, change(func(q *api.Params) { q.Frames = 0 }), api.ErrRange},
		{program(), nil, change(func(q *api.Params) { q.Frames = 257 }), api.ErrRange},
		{program(), nil, change(func(q *api.Params) { q.Deque = 1 }), api.ErrRange},
		{program(), nil, change(func(q *api.Params) { q.Deque = 257 }), api.ErrRange},
		{program(), nil, change(func(q *api.Params) { q.Output = -1 }), api.ErrRange},
		{program(), nil, change(func(q *api.Params) { q.Output = 1001 }), api.ErrRange},
		{program(), nil, change(func(q *api.Params) { q.Output = 0 }), api.OK},
		{program(), make([]int, 9), change(func(q *api.Params) { q.Output = 1001 }), api.ErrRange},
		{wrong, make([]int, 9), api.Params{}, api.ErrEnd},
		{api.Program{}, nil, params, api.ErrNone},
		{program(), nil, api.Params{Workers: least, Throttle: most, Frames: least, Deque: most, Output: most}, api.ErrRange},
	} {
		if e := core.Check(x.p, x.input, x.q); e != x.want {
			t.Errorf("%d: %v, want %v", i, e, x.want)
		}
		if c, e := core.New(x.p, x.input, x.q); e != x.want || (c == nil) != (e != api.OK) {
			t.Errorf("%d: %v, want %v", i, e, x.want)
		}
	}
}

// Promise 25.2: what a core has at first.
func TestParts(t *testing.T) {
	c := made(t, program(), []int{7, -8}, params)
	plan := layout.Plan{Workers: 2, Frames: 4, Throttle: 3, Deque: 5}
	if c.Params() != params || c.Plan() != plan {
		t.Error(c.Params(), c.Plan())
	}
	want := make([]int, plan.Size())
	want[plan.Frame(1)] = 1 // the root's Join
	if !slices.Equal(c.Words().All(), want) {
		t.Error(c.Words().All())
	}
	if !slices.Equal(c.Data().All(), []int{7, -8, 0, 0}) {
		t.Error(c.Data().All())
	}
	if f := c.Frames().At(1); f == nil || *f != frame.Root() || c.Frames().Used() != 1 || c.Frames().Peak() != 1 {
		t.Error(f)
	}
	if c.Out().Len() != 0 || c.Log().Len() != 0 || *c.Stats() != (api.Stats{}) {
		t.Error("something has happened")
	}
	if status, why := c.Status(); status != api.Going || why != 0 {
		t.Error(status, why)
	}
	for range 4 {
		c.Frames().Make(frame.Root())
	}
	if c.Frames().Used() != 4 {
		t.Error(c.Frames().Used())
	}
	for i := range 9 {
		c.Out().Emit(i)
	}
	if c.Out().Len() != 6 {
		t.Error(c.Out().Len())
	}
}

// Promise 25.2: each is the core's own, itself; frames have their words in the core's.
func TestThemselves(t *testing.T) {
	c := made(t, program(), nil, params)
	c.Stats().Steps = 5
	c.Log().Note(api.Event{Kind: 1})
	c.Data().Store(1, 9)
	c.Words().Store(0, 3)
	c.Words().Fill(c.Plan().Frame(2), 1, 77)
	c.Frames().Make(frame.Root())
	if n, _ := c.Words().Load(c.Plan().Frame(2)); n != 1 {
		t.Error(n)
	}
	c.Frames().At(1).Pc = 4
	if c.Stats().Steps != 5 || c.Log().Len() != 1 || c.Data().All()[1] != 9 || c.Words().All()[0] != 3 || c.Frames().At(1).Pc != 4 {
		t.Error("not itself")
	}
}

// Promise 25.1: what was handed in isn't kept.
func TestKeepsNothing(t *testing.T) {
	p, input := program(), []int{1, 2}
	c := made(t, p, input, params)
	p.Funcs[0][0].Op = api.Emit
	p.Funcs[1] = nil
	input[0] = 9
	if c.Code(0, 0) != (api.Ins{Op: api.Set, A: 1, B: 5}) || c.Code(1, 0) != (api.Ins{Op: api.Break}) || c.Data().All()[0] != 1 {
		t.Error(c.Code(0, 0), c.Code(1, 0), c.Data().All())
	}
}

// Promise 25.3: instructions, and where there are none.
func TestCode(t *testing.T) {
	c := made(t, program(), nil, params)
	for fn, code := range program().Funcs {
		for pc, want := range code {
			if got := c.Code(fn, pc); got != want {
				t.Error(fn, pc, got)
			}
		}
		if got := c.Code(fn, len(code)); got != (api.Ins{}) {
			t.Error(fn, got)
		}
	}
	for _, x := range [][2]int{{-1, 0}, {2, 0}, {0, -1}, {0, 3}, {1, 1}, {least, most}, {most, least}} {
		if got := c.Code(x[0], x[1]); got != (api.Ins{}) {
			t.Error(x, got)
		}
	}
}

// Promise 25.3: serial numbers count from 1 on.
func TestSerial(t *testing.T) {
	c, d := made(t, program(), nil, params), made(t, program(), nil, params)
	for i := 1; i < 10; i++ {
		if n := c.Serial(); n != i {
			t.Error(i, n)
		}
	}
	if n := d.Serial(); n != 1 {
		t.Error(n)
	}
}

// Promise 25.3: memory is asked.
func TestAsk(t *testing.T) {
	c := made(t, program(), []int{7, 8}, params)
	ask := func(e step.Effect, n int, ok bool, data ...int) {
		t.Helper()
		if got, is := c.Ask(e); got != n || is != ok || !slices.Equal(c.Data().All(), data) {
			t.Error(e, got, is, c.Data().All())
		}
	}
	ask(step.Effect{Kind: step.Read, At: 1, Value: 9, Other: 9, Reg: 3}, 8, true, 7, 8, 0, 0)
	ask(step.Effect{Kind: step.Write, At: 1, Value: 9}, 0, true, 7, 9, 0, 0)
	ask(step.Effect{Kind: step.More, At: 0, Value: -3}, 7, true, 4, 9, 0, 0)
	ask(step.Effect{Kind: step.Change, At: 0, Value: 4, Other: 5}, 4, true, 5, 9, 0, 0)
	ask(step.Effect{Kind: step.Change, At: 0, Value: 4, Other: 6}, 5, true, 5, 9, 0, 0)
	for _, at := range []int{-1, 4, least, most} {
		for kind := step.Read; kind <= step.Change; kind++ {
			ask(step.Effect{Kind: kind, At: at}, 0, false, 5, 9, 0, 0)
		}
	}
	for _, kind := range []int{step.None, step.Tell, step.Fork, step.Meet, step.Pipe, step.Wait, step.Cont, step.Leave, step.Back, 13, -1} {
		ask(step.Effect{Kind: kind, At: 1, Value: 3}, 0, false, 5, 9, 0, 0)
	}
}

// Promise 25.3: a run stops once.
func TestStop(t *testing.T) {
	for _, x := range [][2]int{{api.Done, 0}, {api.Full, api.FullDeque}, {api.Faulted, api.Bounds}} {
		c := made(t, program(), nil, params)
		c.Stop(x[0], x[1])
		c.Stop(api.Full, api.FullFrames)
		c.Stop(api.Done, 0)
		if status, why := c.Status(); status != x[0] || why != x[1] {
			t.Error(x, status, why)
		}
	}
}

// Promises 25.2, 25.3: of nil, and of nothing.
func TestNil(t *testing.T) {
	for i, c := range []*core.Core{nil, new(core.Core)} {
		if c.Params() != (api.Params{}) || c.Plan() != (layout.Plan{}) || c.Words() != nil || c.Data() != nil || c.Frames() != nil || c.Out() != nil || c.Log() != nil || c.Stats() != nil {
			t.Error(i)
		}
		n, ok := c.Ask(step.Effect{Kind: step.Read})
		if c.Code(0, 0) != (api.Ins{}) || n != 0 || ok || c.Serial() != i {
			t.Error(i)
		}
		c.Stop(api.Done, 3)
		if status, why := c.Status(); i == 0 && (status != 0 || why != 0) {
			t.Error(i, status, why)
		}
	}
}
